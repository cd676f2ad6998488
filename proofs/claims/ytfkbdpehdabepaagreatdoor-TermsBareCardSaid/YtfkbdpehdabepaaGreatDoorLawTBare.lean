/-
  The law's kind and Whole, where both are the same. TermsBare: the reference's bare, Bare; terms.Bare; the law's walk.
-/
import Derived.Test.YtfkbdpehdabepaaGreatDoorM5
import Derived.StillTailTactics
import Derived.Test.YtfkbdpehdabepaaGreatDoorTmRBareA
import Derived.Test.YtfkbdpehdabepaaGreatDoorTmRBareB
import Derived.Test.YtfkbdpehdabepaaGreatDoorM4
import Derived.Test.YtfkbdpehdabepaaGreatDoorCa2
namespace Go.Proofs.YtfkbdpehdabepaaGreatDoor
open Go.RowKit

set_option maxHeartbeats 4000000 in
set_option maxRecDepth 100000 in
theorem kind_any (K : Nat) : ∀ (k : Int) (kids : Fo) (A : Option Addr) (n c : Nat) (A' : Option Addr) (n' c' : Nat) (w : World), Ty.nodes kids < K → Ty.Is w k kids A n c → Ty.Is w k kids A' n' c' →
    Calls Tryz.prog 37 #[.agg #[.int .i8 k, .slice A n c], .agg #[.int .i8 k, .slice A' n' c']] w fun e w' => e = .returned (.bool true) ∧ Below w.heap.size w w' := by
  induction K with
  | zero => intro _ _ _ _ _ _ _ _ _ hK; omega
  | succ K ih =>
    intro k kids A n c A' n' c' w hK hIs hIs'
    obtain rfl : n = n' := by rw [hIs.n_eq, hIs'.n_eq]
    have hB0 : Below w.heap.size w ((w.alloc (.cells #[.int .i8 k, .slice A n c] 25)).alloc (.cells #[.int .i8 k, .slice A' n c'] 25)) := ((Below.refl _ _).alloc (Nat.le_refl _) _).alloc (by simp) _
    obtain ⟨r0, r1, r2⟩ := two_new w (.cells #[.int .i8 k, .slice A n c] 25) (.cells #[.int .i8 k, .slice A' n c'] 25)
    have i5 : (n : Int) ≤ 9223372036854775807 := by have h1 := hIs.n_le; have h2 := hIs.c_le; unfold maxLen at h2; omega
    have HS1 := Lib.hid (Over.start (hIs.below hB0).lies hIs.n_eq)
    have HS2 := Lib.hid (Over.start (hIs'.below hB0).lies hIs'.n_eq)
    have IH := Lib.hid ih
    have R0 := Lib.hid r0
    have R1 := Lib.hid r1
    obtain ⟨b0, b1, _, _, hb0⟩ := own2 r0
    obtain ⟨d0, d1, _, _, hd0⟩ := own2 r1
    clear hIs hIs' ih r0 r1 r2
    go_enter Tryz.func37, Tryz.ntmps37
    go_wp2_with fail
    generalize (w.alloc (.cells #[.int .i8 k, .slice A n c] 25)).alloc (.cells #[.int .i8 k, .slice A' n c'] 25) = w1 at *
    clear b0 b1 d0 d1
    go_loopw [23] (fun v wr => ∃ (i : Nat) (rest : Fo), v = .int .i64 i ∧ Over w1 wr A n (Ty.nodes kids) i rest ∧ Over w1 wr A' n (Ty.nodes kids) i rest) (fun v _ => n - (intOf v).toNat)
    case atStart => exact ⟨0, kids, rfl, HS1.out, HS2.out⟩
    case round =>
      obtain ⟨i, rest, rfl, hO, hO2⟩ := hrel
      have hbB := hB0.trans (hO.below.mono hB0.size)
      obtain ⟨b0, b1, _, _, hbl0⟩ := own2 (heap_below hO.below hb0 R0.out)
      obtain ⟨d0, d1, _, _, hdl0⟩ := own2 (heap_below hO.below hd0 R1.out)
      cases rest with
      | nil =>
        have hi : i = n := by have := hO.i_eq; simpa [Ty.len] using this
        clear hO hO2
        subst hi
        go_wp2_with fail
        go_ret
        exact ⟨rfl, hbB⟩
      | node a b kk kd r =>
        have hst := fun w2 hb => Over.step (w2 := w2) hO hb
        have hst2 := fun w2 hb => Over.step (w2 := w2) hO2 hb
        have e1 := hO.i_eq
        have e2 := hO.lies
        have e22 := hO2.lies
        have e3 := hO.sub
        simp only [Ty.len, Ty.nodes] at e1 e3
        obtain ⟨bb, oo, B, cB, hA, ⟨hk1, hk2⟩, c0, c1, hl1, hl2, hl3, hl4⟩ := e2
        obtain ⟨bb2, oo2, B2, cB2, hA2, _, f0, f1, hm1, hm2, hm3, hm4⟩ := e22
        have E0 : Below wr.heap.size wr wr.drew := (Below.refl _ _).drew
        have hcall := IH.out kk kd B (Ty.len kd) cB B2 (Ty.len kd) cB2 wr.drew (by omega) (Ty.Is.below ⟨hl3, rfl, hl1, hl2, hk1, hk2⟩ E0) (Ty.Is.below ⟨hm3, rfl, hm1, hm2, hk1, hk2⟩ E0)
        have HST := Lib.hid hst
        have HST2 := Lib.hid hst2
        have HL := Lib.hid hl4
        have HL2 := Lib.hid hm4
        have j1 : (0 : Int) ≤ (i : Int) ∧ (i : Int) < n := by omega
        have HCK := Lib.hid hcall
        have HA := Lib.hid hA
        have HA2 := Lib.hid hA2
        clear hst hst2 hl3 hl4 hm3 hm4 hcall hO hO2 hA hA2
        obtain rfl : A = some ⟨bb, oo, none⟩ := HA.out
        obtain rfl : A' = some ⟨bb2, oo2, none⟩ := HA2.out
        clear HA HA2
        go_wp2_with fail
        go_still_tail 10, (by kernel_rfl)
        change wpList _ _ _ _ _ wr.drew
        clear b0 b1 d0 d1 c0 c1 f0 f1
        generalize wr.drew = w5 at *
        go_wp2_with fail
        refine HCK.out.mono ?_
        rintro e w2 ⟨rfl, hb⟩
        have hbw := E0.trans (hb.mono E0.size)
        have hbb := Lib.hid (HST.out w2 hbw HL.out)
        have hbb2 := Lib.hid (HST2.out w2 hbw HL2.out)
        clear hb hbw
        go_wp2_with fail
        go_roundw
        case rel => exact ⟨i + 1, r, by go_num, hbb.out, hbb2.out⟩
        case measure => simp [intOf]; omega

set_option maxHeartbeats 4000000 in
set_option maxRecDepth 100000 in
theorem whole_any (K : Nat) : ∀ (h : Hd) (kids : Tm) (p p' : Pl) (w : World), Tm.nodes kids < K → Tm.Is w h kids p → Tm.Is w h kids p' →
    Calls Tryz.prog 9 #[.agg #[.int .i8 h.kind, .string h.name, .string h.arg, .int .i64 h.num, .int .i8 h.tk, .slice p.TA p.tn p.tc, .int .i8 h.uk, .slice p.UA p.un p.uc, .int .i64 h.label, .int .i64 h.pos, .slice p.A p.n p.c], .agg #[.int .i8 h.kind, .string h.name, .string h.arg, .int .i64 h.num, .int .i8 h.tk, .slice p'.TA p'.tn p'.tc, .int .i8 h.uk, .slice p'.UA p'.un p'.uc, .int .i64 h.label, .int .i64 h.pos, .slice p'.A p'.n p'.c]] w fun e w' => e = .returned (.bool true) ∧ Below w.heap.size w w' := by
  induction K with
  | zero => intro _ _ _ _ _ hK; omega
  | succ K ih =>
    intro h kids p p' w hK hIs hIs'
    have hB0 : Below w.heap.size w ((w.alloc (.cells #[.int .i8 h.kind, .string h.name, .string h.arg, .int .i64 h.num, .int .i8 h.tk, .slice p.TA p.tn p.tc, .int .i8 h.uk, .slice p.UA p.un p.uc, .int .i64 h.label, .int .i64 h.pos, .slice p.A p.n p.c] 28)).alloc (.cells #[.int .i8 h.kind, .string h.name, .string h.arg, .int .i64 h.num, .int .i8 h.tk, .slice p'.TA p'.tn p'.tc, .int .i8 h.uk, .slice p'.UA p'.un p'.uc, .int .i64 h.label, .int .i64 h.pos, .slice p'.A p'.n p'.c] 28)) := ((Below.refl _ _).alloc (Nat.le_refl _) _).alloc (by simp) _
    obtain ⟨r0, r1, r2⟩ := two_new w (.cells #[.int .i8 h.kind, .string h.name, .string h.arg, .int .i64 h.num, .int .i8 h.tk, .slice p.TA p.tn p.tc, .int .i8 h.uk, .slice p.UA p.un p.uc, .int .i64 h.label, .int .i64 h.pos, .slice p.A p.n p.c] 28) (.cells #[.int .i8 h.kind, .string h.name, .string h.arg, .int .i64 h.num, .int .i8 h.tk, .slice p'.TA p'.tn p'.tc, .int .i8 h.uk, .slice p'.UA p'.un p'.uc, .int .i64 h.label, .int .i64 h.pos, .slice p'.A p'.n p'.c] 28)
    have i5 : (p.n : Int) ≤ 9223372036854775807 := by have h1 := hIs.fit.n_le; have h2 := hIs.fit.c_le; unfold maxLen at h2; omega
    have i6 : (p'.n : Int) ≤ 9223372036854775807 := by have h1 := hIs'.fit.n_le; have h2 := hIs'.fit.c_le; unfold maxLen at h2; omega
    have hnn : p.n = p'.n := by rw [hIs.fit.n_eq, hIs'.fit.n_eq]
    have hne : ((p.n : Int) != (p'.n : Int)) = false := by simp [hnn]
    have HNN := Lib.hid hnn
    have C1 := Lib.hid (fun (W : World) (hb : Below w.heap.size w W) => kind_any (Ty.nodes h.tkids + 1) h.tk h.tkids p.TA p.tn p.tc p'.TA p'.tn p'.tc W (by omega) (hIs.below hb).fit.ty (hIs'.below hb).fit.ty)
    have C2 := Lib.hid (fun (W : World) (hb : Below w.heap.size w W) => kind_any (Ty.nodes h.ukids + 1) h.uk h.ukids p.UA p.un p.uc p'.UA p'.un p'.uc W (by omega) (hIs.below hb).fit.to (hIs'.below hb).fit.to)
    have HLI := Lib.hid (fun (W : World) (hb : Below w.heap.size w W) => And.intro (hIs.below hb).lies (hIs'.below hb).lies)
    have HE1 := Lib.hid hIs.fit.n_eq
    have HE2 := Lib.hid hIs'.fit.n_eq
    have IH := Lib.hid ih
    have R0 := Lib.hid r0
    have R1 := Lib.hid r1
    obtain ⟨q0, q1, q2, q3, q4, q5, q6, q7, q8, q9, q10, ql⟩ := own11 r0
    obtain ⟨y0, y1, y2, y3, y4, y5, y6, y7, y8, y9, y10, yl⟩ := own11 r1
    clear hIs hIs' ih r0 r1 r2 hnn
    go_enter Tryz.func9, Tryz.ntmps9
    go_wp2_with fail
    refine (C1.out _ hB0).mono ?_
    rintro e u1 ⟨rfl, hb⟩
    have hB1 := hB0.trans (hb.mono hB0.size)
    have S0 := Lib.hid (heap_below hb ql R0.out)
    have S1 := Lib.hid (heap_below hb yl R1.out)
    clear hb q0 q1 q2 q3 q4 q5 q6 q7 q8 q9 q10 ql y0 y1 y2 y3 y4 y5 y6 y7 y8 y9 y10 yl
    obtain ⟨q0, q1, q2, q3, q4, q5, q6, q7, q8, q9, q10, ql⟩ := own11 S0.out
    obtain ⟨y0, y1, y2, y3, y4, y5, y6, y7, y8, y9, y10, yl⟩ := own11 S1.out
    go_wp2_with fail
    refine (C2.out _ hB1).mono ?_
    rintro e u2 ⟨rfl, hb⟩
    have hB2 := hB1.trans (hb.mono hB1.size)
    have T0 := Lib.hid (heap_below hb ql S0.out)
    have T1 := Lib.hid (heap_below hb yl S1.out)
    clear hb q0 q1 q2 q3 q4 q5 q6 q7 q8 q9 q10 ql y0 y1 y2 y3 y4 y5 y6 y7 y8 y9 y10 yl
    obtain ⟨q0, q1, q2, q3, q4, q5, q6, q7, q8, q9, q10, ql⟩ := own11 T0.out
    obtain ⟨y0, y1, y2, y3, y4, y5, y6, y7, y8, y9, y10, yl⟩ := own11 T1.out
    have HS1 := Lib.hid (OverT.start (HLI.out _ hB2).1 HE1.out)
    have HS2 := Lib.hid (OverT.start (HLI.out _ hB2).2 HE2.out)
    go_wp2_with fail
    clear q0 q1 q2 q3 q4 q5 q6 q7 q8 q9 q10 y0 y1 y2 y3 y4 y5 y6 y7 y8 y9 y10
    go_loopw [74] (fun v wr => ∃ (i : Nat) (rest : Tm), v = .int .i64 i ∧ OverT u2 wr p.A p.n (Tm.nodes kids) i rest ∧ OverT u2 wr p'.A p'.n (Tm.nodes kids) i rest) (fun v _ => p.n - (intOf v).toNat)
    case atStart => exact ⟨0, kids, rfl, HS1.out, HS2.out⟩
    case round =>
      obtain ⟨i, rest, rfl, hO, hO2⟩ := hrel
      have hbB := hB2.trans (hO.below.mono hB2.size)
      obtain ⟨q0, q1, q2, q3, q4, q5, q6, q7, q8, q9, q10, ql2⟩ := own11 (heap_below hO.below ql T0.out)
      obtain ⟨y0, y1, y2, y3, y4, y5, y6, y7, y8, y9, y10, yl2⟩ := own11 (heap_below hO.below yl T1.out)
      cases rest with
      | nil =>
        have hi : i = p.n := by have := hO.i_eq; simpa [Tm.len] using this
        clear hO hO2
        subst hi
        go_wp2_with fail
        go_ret
        exact ⟨rfl, hbB⟩
      | node h1 kd r =>
        have hst := fun w2 hb => OverT.step (w2 := w2) hO hb
        have hst2 := fun w2 hb => OverT.step (w2 := w2) hO2 hb
        have e1 := hO.i_eq
        have e2 := hO.lies
        have e22 := hO2.lies
        have e3 := hO.sub
        simp only [Tm.len, Tm.nodes] at e1 e3
        obtain ⟨bb, oo, p1, hpA, hcs, hfit, hl3, hl4⟩ := e2
        obtain ⟨bb2, oo2, p2, hpA2, hcs2, hfit2, hl32, hl42⟩ := e22
        have E0 : Below wr.heap.size wr wr.drew := (Below.refl _ _).drew
        have hcall := IH.out h1 kd p1 p2 wr.drew (by omega) (Tm.Is.below ⟨hfit, hl3⟩ E0) (Tm.Is.below ⟨hfit2, hl32⟩ E0)
        obtain ⟨c0, c1, c2, c3, c4, c5, c6, c7, c8, c9, c10⟩ := Tm.row hcs
        obtain ⟨d0, d1, d2, d3, d4, d5, d6, d7, d8, d9, d10⟩ := Tm.row hcs2
        have HST := Lib.hid hst
        have HST2 := Lib.hid hst2
        have HL := Lib.hid hl4
        have HL2 := Lib.hid hl42
        have j1 : (0 : Int) ≤ (i : Int) ∧ (i : Int) < p.n := by omega
        have j2 : (0 : Int) ≤ (i : Int) ∧ (i : Int) < p'.n := by have h9 := HNN.out; omega
        have HPA := Lib.hid hpA
        have HPA2 := Lib.hid hpA2
        have HCK := Lib.hid hcall
        clear hst hst2 hl3 hl4 hl32 hl42 hO hO2 hcs hcs2 hfit hfit2 hpA hpA2 hcall
        generalize hPA : p.A = PA at *
        generalize hPA2 : p'.A = PA2 at *
        obtain rfl : PA = some ⟨bb, oo, none⟩ := HPA.out
        obtain rfl : PA2 = some ⟨bb2, oo2, none⟩ := HPA2.out
        clear hPA hPA2 HPA HPA2
        go_wp2_with fail
        go_still_tail 10, (by kernel_rfl)
        change wpList _ _ _ _ _ wr.drew
        clear q0 q1 q2 q3 q4 q5 q6 q7 q8 q9 q10 ql2 y0 y1 y2 y3 y4 y5 y6 y7 y8 y9 y10 yl2 c0 c1 c2 c3 c4 c5 c6 c7 c8 c9 c10 d0 d1 d2 d3 d4 d5 d6 d7 d8 d9 d10
        generalize wr.drew = w5 at *
        go_wp2_with fail
        refine HCK.out.mono ?_
        rintro e w2 ⟨rfl, hb⟩
        have hbw := E0.trans (hb.mono E0.size)
        have hbb := Lib.hid (HST.out w2 hbw HL.out)
        have hbb2 := Lib.hid (HST2.out w2 hbw HL2.out)
        clear hb hbw
        go_wp2_with fail
        go_roundw
        case rel => exact ⟨i + 1, r, by go_num, hbb.out, hbb2.out⟩
        case measure => simp [intOf]; omega
end Go.Proofs.YtfkbdpehdabepaaGreatDoor
namespace Go.Proofs.YtfkbdpehdabepaaGreatDoor
open Go.RowKit

theorem rbare_any (K : Nat) : ∀ (n0 : Nat) (h : Hd) (kids : Tm) (p : Pl) (w : World), Tm.nodes kids < K → Tm.nodes kids ≤ 8192 → Tm.Is (mask (fun b => decide (b < n0)) w) h kids p → n0 ≤ w.heap.size →
    Calls Tryz.prog 40 #[.agg #[.int .i8 h.kind, .string h.name, .string h.arg, .int .i64 h.num, .int .i8 h.tk, .slice p.TA p.tn p.tc, .int .i8 h.uk, .slice p.UA p.un p.uc, .int .i64 h.label, .int .i64 h.pos, .slice p.A p.n p.c]] w (CopyTm (fun b => decide (b < n0) || decide (w.heap.size ≤ b)) w h kids) := by
  induction K with
  | zero => intro _ _ _ _ _ hK; omega
  | succ K ih =>
    intro n0 h kids p w hK hsm hIs hn0
    rcases Tm.combos h.kind with hk | hk | hk | hk | hk | hk | hk | hk
    · exact rbare_A n0 h kids p w K hK hsm hIs hn0 hk ih
    · exact rbare_V n0 h kids p w K hK hsm hIs hn0 hk ih
    · exact rbare_N n0 h kids p w K hK hsm hIs hn0 hk ih
    · exact rbare_L n0 h kids p w K hK hsm hIs hn0 hk ih
    · exact rbare_R n0 h kids p w K hK hsm hIs hn0 hk ih
    · exact rbare_I n0 h kids p w K hK hsm hIs hn0 hk ih
    · exact rbare_C n0 h kids p w K hK hsm hIs hn0 hk ih
    · exact rbare_K n0 h kids p w K hK hsm hIs hn0 hk ih

def Tm.zero : Hd := ⟨0, ⟨#[]⟩, ⟨#[]⟩, 0, 0, .nil, 0, .nil, 0, 0⟩
/-- what Bare gives -/
def Tm.bH (h : Hd) (kids : Tm) : Hd := if Tm.chk h kids = 0 then Tm.cnt h else Tm.zero
def Tm.bK (h : Hd) (kids : Tm) : Tm := if Tm.chk h kids = 0 then Tm.bF kids else .nil
def BareP (w : World) (h : Hd) (kids : Tm) (e : Ending) (w' : World) : Prop :=
  ∃ p, e = .returned (.agg #[.int .i8 (Tm.bH h kids).kind, .string (Tm.bH h kids).name, .string (Tm.bH h kids).arg, .int .i64 (Tm.bH h kids).num, .int .i8 (Tm.bH h kids).tk, .slice p.TA p.tn p.tc, .int .i8 (Tm.bH h kids).uk, .slice p.UA p.un p.uc, .int .i64 (Tm.bH h kids).label, .int .i64 (Tm.bH h kids).pos, .slice p.A p.n p.c]) ∧ Tm.Is w' (Tm.bH h kids) (Tm.bK h kids) p ∧ Below w.heap.size w w'
theorem Tm.is_zero (w : World) : Tm.Is w Tm.zero .nil ⟨none, 0, 0, none, 0, 0, none, 0, 0⟩ := by
  have hz : ∀ w : World, Ty.Is w 0 .nil none 0 0 := fun w => ⟨trivial, rfl, Nat.le_refl _, Nat.zero_le _, by omega, by omega⟩
  exact ⟨⟨hz w, hz w, rfl, Nat.le_refl _, Nat.zero_le _, by decide, by decide, by decide, by decide, by decide, by decide⟩, trivial⟩
theorem Tm.small_of {h : Hd} {kids : Tm} (hc : Tm.chk h kids = 0) : Tm.tyN h + Tm.nodes kids ≤ 8192 := by
  have e : Tm.nd h kids = 1 + Tm.tyN h + Tm.nodes kids := rfl
  unfold Tm.chk at hc
  by_cases h1 : 8192 < Tm.nd h kids
  · rw [if_pos h1] at hc; omega
  · omega

set_option maxHeartbeats 4000000 in
set_option maxRecDepth 100000 in
theorem tbare_any (h : Hd) (kids : Tm) (p : Pl) (w : World) (hIs : Tm.Is w h kids p) (hG : TGlob w) :
    Calls Tryz.prog 10 #[.agg #[.int .i8 h.kind, .string h.name, .string h.arg, .int .i64 h.num, .int .i8 h.tk, .slice p.TA p.tn p.tc, .int .i8 h.uk, .slice p.UA p.un p.uc, .int .i64 h.label, .int .i64 h.pos, .slice p.A p.n p.c]] w (BareP w h kids) := by
  have hB0 : Below w.heap.size w ((w.alloc (.cells #[.int .i8 h.kind, .string h.name, .string h.arg, .int .i64 h.num, .int .i8 h.tk, .slice p.TA p.tn p.tc, .int .i8 h.uk, .slice p.UA p.un p.uc, .int .i64 h.label, .int .i64 h.pos, .slice p.A p.n p.c] 28)).alloc (.cells #[.int .i8 0, .string ⟨#[]⟩, .string ⟨#[]⟩, .int .i64 0, .int .i8 0, .slice none 0 0, .int .i8 0, .slice none 0 0, .int .i64 0, .int .i64 0, .slice none 0 0] 28)) := ((Below.refl _ _).alloc (Nat.le_refl _) _).alloc (by simp) _
  obtain ⟨r0, r1, r2⟩ := two_new w (.cells #[.int .i8 h.kind, .string h.name, .string h.arg, .int .i64 h.num, .int .i8 h.tk, .slice p.TA p.tn p.tc, .int .i8 h.uk, .slice p.UA p.un p.uc, .int .i64 h.label, .int .i64 h.pos, .slice p.A p.n p.c] 28) (.cells #[.int .i8 0, .string ⟨#[]⟩, .string ⟨#[]⟩, .int .i64 0, .int .i8 0, .slice none 0 0, .int .i8 0, .slice none 0 0, .int .i64 0, .int .i64 0, .slice none 0 0] 28)
  have HM := Lib.hid (fun (W : World) (hb : Below w.heap.size w W) => tcheck_any h kids p W (hIs.below hb) (hG.below hb))
  have HBR := Lib.hid (fun (W : World) (hb : Below w.heap.size w W) (hs : Tm.chk h kids = 0) => bare_cpm h kids p W hs (hIs.below hb) (hG.below hb))
  have R0 := Lib.hid r0
  have R1 := Lib.hid r1
  clear hIs r0 r1 r2 hG
  unfold BareP Tm.bH Tm.bK
  by_cases hc : Tm.chk h kids = 0
  · have hsm := Tm.small_of hc
    have hne : (((Tm.chk h kids : Nat) : Int) != 0) = false := by rw [hc]; rfl
    simp only [if_pos hc]
    have HB2 := Lib.hid (fun (W : World) (hb : Below w.heap.size w W) => show Calls Tryz.prog 38 #[.agg #[.int .i8 h.kind, .string h.name, .string h.arg, .int .i64 h.num, .int .i8 h.tk, .slice p.TA p.tn p.tc, .int .i8 h.uk, .slice p.UA p.un p.uc, .int .i64 h.label, .int .i64 h.pos, .slice p.A p.n p.c]] W (fun e w' => ∃ p', e = .returned (.agg #[.int .i8 (Tm.cnt h).kind, .string (Tm.cnt h).name, .string (Tm.cnt h).arg, .int .i64 (Tm.cnt h).num, .int .i8 (Tm.cnt h).tk, .slice p'.TA p'.tn p'.tc, .int .i8 (Tm.cnt h).uk, .slice p'.UA p'.un p'.uc, .int .i64 (Tm.cnt h).label, .int .i64 (Tm.cnt h).pos, .slice p'.A p'.n p'.c]) ∧ Tm.Is (mask (fun b => decide (W.heap.size ≤ b)) w') (Tm.cnt h) (Tm.bF kids) p' ∧ Below W.heap.size W w') from HBR.out W hb hc)
    generalize ((Tm.chk h kids : Nat) : Int) = x0 at *
    clear hc HBR hsm
    generalize Tm.cnt h = a at *
    generalize Tm.bF kids = bk at *
    go_enter Tryz.func10, Tryz.ntmps10
    go_wp2_with fail
    refine (HM.out _ hB0).mono ?_
    rintro e w3 ⟨rfl, hb⟩
    have hB1 := hB0.trans (hb.mono hB0.size)
    have S0 := Lib.hid (heap_below hb (heap_lt R0.out) R0.out)
    have S1 := Lib.hid (heap_below hb (heap_lt R1.out) R1.out)
    obtain ⟨q0, q1, q2, q3, q4, q5, q6, q7, q8, q9, q10, ql⟩ := own11 S0.out
    clear hb
    go_wp2_with fail
    refine (HB2.out _ hB1).mono ?_
    rintro e w4 ⟨p', rfl, hI, hb⟩
    have hB2 := hB1.trans (hb.mono hB1.size)
    have Q1 := Lib.hid (heap_below hb (heap_lt S1.out) S1.out)
    have hl1 := heap_lt S1.out
    have HI := Lib.hid hI
    obtain ⟨y0, y1, y2, y3, y4, y5, y6, y7, y8, y9, y10, yl⟩ := own11 Q1.out
    have f0 := free11 Q1.out 0
    have f1 := free11 Q1.out 1
    have f2 := free11 Q1.out 2
    have f3 := free11 Q1.out 3
    have f4 := free11 Q1.out 4
    have f5 := free11 Q1.out 5
    have f6 := free11 Q1.out 6
    have f7 := free11 Q1.out 7
    have f8 := free11 Q1.out 8
    have f9 := free11 Q1.out 9
    have f10 := free11 Q1.out 10
    clear hb hI q0 q1 q2 q3 q4 q5 q6 q7 q8 q9 q10 ql
    go_wp2_with fail
    refine bodyPost_ret (v := .agg #[.int .i8 a.kind, .string a.name, .string a.arg, .int .i64 a.num, .int .i8 a.tk, .slice p'.TA p'.tn p'.tc, .int .i8 a.uk, .slice p'.UA p'.un p'.uc, .int .i64 a.label, .int .i64 a.pos, .slice p'.A p'.n p'.c]) (by simp [results, Tryz.results10, go_sem, *]) rfl ⟨p', rfl, ?_, below_only11 hB2 (by omega) _ _ _ _ _ _ _ _ _ _ _⟩
    refine HI.out.kept fun b hb o x hx => ?_
    obtain ⟨hP, hx2⟩ := mask_at hx
    exact far11 _ _ _ _ _ _ _ _ _ _ _ b o x (by simp only [decide_eq_true_eq] at hP; omega) hx2
  · have hne : (((Tm.chk h kids : Nat) : Int) != 0) = true := by simp; omega
    simp only [if_neg hc]
    generalize ((Tm.chk h kids : Nat) : Int) = x0 at *
    clear hc HBR
    go_enter Tryz.func10, Tryz.ntmps10
    go_wp2_with fail
    refine (HM.out _ hB0).mono ?_
    rintro e w3 ⟨rfl, hb⟩
    have hB1 := hB0.trans (hb.mono hB0.size)
    have S1 := Lib.hid (heap_below hb (heap_lt R1.out) R1.out)
    obtain ⟨y0, y1, y2, y3, y4, y5, y6, y7, y8, y9, y10, yl⟩ := own11 S1.out
    have f0 := free11 S1.out 0
    have f1 := free11 S1.out 1
    have f2 := free11 S1.out 2
    have f3 := free11 S1.out 3
    have f4 := free11 S1.out 4
    have f5 := free11 S1.out 5
    have f6 := free11 S1.out 6
    have f7 := free11 S1.out 7
    have f8 := free11 S1.out 8
    have f9 := free11 S1.out 9
    have f10 := free11 S1.out 10
    clear hb
    go_wp2_with fail
    refine bodyPost_ret (v := .agg #[.int .i8 0, .string ⟨#[]⟩, .string ⟨#[]⟩, .int .i64 0, .int .i8 0, .slice none 0 0, .int .i8 0, .slice none 0 0, .int .i64 0, .int .i64 0, .slice none 0 0]) (by simp [results, Tryz.results10, go_sem, *]) rfl ⟨⟨none, 0, 0, none, 0, 0, none, 0, 0⟩, rfl, Tm.is_zero _, below_only11 hB1 (by omega) _ _ _ _ _ _ _ _ _ _ _⟩

set_option maxHeartbeats 4000000 in
set_option maxRecDepth 100000 in
theorem trefbare_any (h : Hd) (kids : Tm) (p : Pl) (w : World) (hIs : Tm.Is w h kids p) :
    Calls Tryz.prog 11 #[.agg #[.int .i8 h.kind, .string h.name, .string h.arg, .int .i64 h.num, .int .i8 h.tk, .slice p.TA p.tn p.tc, .int .i8 h.uk, .slice p.UA p.un p.uc, .int .i64 h.label, .int .i64 h.pos, .slice p.A p.n p.c]] w (BareP w h kids) := by
  have hB0 : Below w.heap.size w ((w.alloc (.cells #[.int .i8 h.kind, .string h.name, .string h.arg, .int .i64 h.num, .int .i8 h.tk, .slice p.TA p.tn p.tc, .int .i8 h.uk, .slice p.UA p.un p.uc, .int .i64 h.label, .int .i64 h.pos, .slice p.A p.n p.c] 28)).alloc (.cells #[.int .i8 0, .string ⟨#[]⟩, .string ⟨#[]⟩, .int .i64 0, .int .i8 0, .slice none 0 0, .int .i8 0, .slice none 0 0, .int .i64 0, .int .i64 0, .slice none 0 0] 28)) := ((Below.refl _ _).alloc (Nat.le_refl _) _).alloc (by simp) _
  obtain ⟨r0, r1, r2⟩ := two_new w (.cells #[.int .i8 h.kind, .string h.name, .string h.arg, .int .i64 h.num, .int .i8 h.tk, .slice p.TA p.tn p.tc, .int .i8 h.uk, .slice p.UA p.un p.uc, .int .i64 h.label, .int .i64 h.pos, .slice p.A p.n p.c] 28) (.cells #[.int .i8 0, .string ⟨#[]⟩, .string ⟨#[]⟩, .int .i64 0, .int .i8 0, .slice none 0 0, .int .i8 0, .slice none 0 0, .int .i64 0, .int .i64 0, .slice none 0 0] 28)
  have HM := Lib.hid (fun (W : World) (hb : Below w.heap.size w W) => tref_check h kids p W (hIs.below hb))
  have HBR := Lib.hid (fun (W : World) (hb : Below w.heap.size w W) (hs : Tm.tyN h + Tm.nodes kids ≤ 8192) => rbare_any (Tm.nodes kids + 1) w.heap.size h kids p W (by omega) (by omega) (hIs.kept (fun b hk o x hx => mask_of (by simpa using Ty.cell_lt hx) (by rw [hb.cell (p := ⟨b, o, none⟩) (Ty.cell_lt hx)]; exact hx))) hb.size)
  have R0 := Lib.hid r0
  have R1 := Lib.hid r1
  clear hIs r0 r1 r2
  unfold BareP Tm.bH Tm.bK
  by_cases hc : Tm.chk h kids = 0
  · have hsm := Tm.small_of hc
    have hne : (((Tm.chk h kids : Nat) : Int) != 0) = false := by rw [hc]; rfl
    simp only [if_pos hc]
    have HB2 := Lib.hid (fun (W : World) (hb : Below w.heap.size w W) => show Calls Tryz.prog 40 #[.agg #[.int .i8 h.kind, .string h.name, .string h.arg, .int .i64 h.num, .int .i8 h.tk, .slice p.TA p.tn p.tc, .int .i8 h.uk, .slice p.UA p.un p.uc, .int .i64 h.label, .int .i64 h.pos, .slice p.A p.n p.c]] W (fun e w' => ∃ p', e = .returned (.agg #[.int .i8 (Tm.cnt h).kind, .string (Tm.cnt h).name, .string (Tm.cnt h).arg, .int .i64 (Tm.cnt h).num, .int .i8 (Tm.cnt h).tk, .slice p'.TA p'.tn p'.tc, .int .i8 (Tm.cnt h).uk, .slice p'.UA p'.un p'.uc, .int .i64 (Tm.cnt h).label, .int .i64 (Tm.cnt h).pos, .slice p'.A p'.n p'.c]) ∧ Tm.Is (mask (fun b => decide (b < w.heap.size) || decide (W.heap.size ≤ b)) w') (Tm.cnt h) (Tm.bF kids) p' ∧ Below W.heap.size W w') from HBR.out W hb hsm)
    generalize ((Tm.chk h kids : Nat) : Int) = x0 at *
    clear hc HBR hsm
    generalize Tm.cnt h = a at *
    generalize Tm.bF kids = bk at *
    go_enter Tryz.func11, Tryz.ntmps11
    go_wp2_with fail
    refine (HM.out _ hB0).mono ?_
    rintro e w3 ⟨rfl, hb⟩
    have hB1 := hB0.trans (hb.mono hB0.size)
    have S0 := Lib.hid (heap_below hb (heap_lt R0.out) R0.out)
    have S1 := Lib.hid (heap_below hb (heap_lt R1.out) R1.out)
    obtain ⟨q0, q1, q2, q3, q4, q5, q6, q7, q8, q9, q10, ql⟩ := own11 S0.out
    clear hb
    go_wp2_with fail
    refine (HB2.out _ hB1).mono ?_
    rintro e w4 ⟨p', rfl, hI, hb⟩
    have hB2 := hB1.trans (hb.mono hB1.size)
    have Q1 := Lib.hid (heap_below hb (heap_lt S1.out) S1.out)
    have hl1 := heap_lt S1.out
    have HI := Lib.hid hI
    obtain ⟨y0, y1, y2, y3, y4, y5, y6, y7, y8, y9, y10, yl⟩ := own11 Q1.out
    have f0 := free11 Q1.out 0
    have f1 := free11 Q1.out 1
    have f2 := free11 Q1.out 2
    have f3 := free11 Q1.out 3
    have f4 := free11 Q1.out 4
    have f5 := free11 Q1.out 5
    have f6 := free11 Q1.out 6
    have f7 := free11 Q1.out 7
    have f8 := free11 Q1.out 8
    have f9 := free11 Q1.out 9
    have f10 := free11 Q1.out 10
    clear hb hI q0 q1 q2 q3 q4 q5 q6 q7 q8 q9 q10 ql
    go_wp2_with fail
    refine bodyPost_ret (v := .agg #[.int .i8 a.kind, .string a.name, .string a.arg, .int .i64 a.num, .int .i8 a.tk, .slice p'.TA p'.tn p'.tc, .int .i8 a.uk, .slice p'.UA p'.un p'.uc, .int .i64 a.label, .int .i64 a.pos, .slice p'.A p'.n p'.c]) (by simp [results, Tryz.results11, go_sem, *]) rfl ⟨p', rfl, ?_, below_only11 hB2 (by omega) _ _ _ _ _ _ _ _ _ _ _⟩
    refine HI.out.kept fun b hb o x hx => ?_
    obtain ⟨hP, hx2⟩ := mask_at hx
    exact far11 _ _ _ _ _ _ _ _ _ _ _ b o x (by simp only [Bool.or_eq_true, decide_eq_true_eq] at hP; omega) hx2
  · have hne : (((Tm.chk h kids : Nat) : Int) != 0) = true := by simp; omega
    simp only [if_neg hc]
    generalize ((Tm.chk h kids : Nat) : Int) = x0 at *
    clear hc HBR
    go_enter Tryz.func11, Tryz.ntmps11
    go_wp2_with fail
    refine (HM.out _ hB0).mono ?_
    rintro e w3 ⟨rfl, hb⟩
    have hB1 := hB0.trans (hb.mono hB0.size)
    have S1 := Lib.hid (heap_below hb (heap_lt R1.out) R1.out)
    obtain ⟨y0, y1, y2, y3, y4, y5, y6, y7, y8, y9, y10, yl⟩ := own11 S1.out
    have f0 := free11 S1.out 0
    have f1 := free11 S1.out 1
    have f2 := free11 S1.out 2
    have f3 := free11 S1.out 3
    have f4 := free11 S1.out 4
    have f5 := free11 S1.out 5
    have f6 := free11 S1.out 6
    have f7 := free11 S1.out 7
    have f8 := free11 S1.out 8
    have f9 := free11 S1.out 9
    have f10 := free11 S1.out 10
    clear hb
    go_wp2_with fail
    refine bodyPost_ret (v := .agg #[.int .i8 0, .string ⟨#[]⟩, .string ⟨#[]⟩, .int .i64 0, .int .i8 0, .slice none 0 0, .int .i8 0, .slice none 0 0, .int .i64 0, .int .i64 0, .slice none 0 0]) (by simp [results, Tryz.results11, go_sem, *]) rfl ⟨⟨none, 0, 0, none, 0, 0, none, 0, 0⟩, rfl, Tm.is_zero _, below_only11 hB1 (by omega) _ _ _ _ _ _ _ _ _ _ _⟩

/-- a term's eleven cells in a block -/
def RowBr (w : World) (g : Nat) (h : Hd) (p : Pl) : Prop :=
  w.cell? ⟨g, 0, none⟩ = some (.int .i8 h.kind) ∧ w.cell? ⟨g, 1, none⟩ = some (.string h.name) ∧ w.cell? ⟨g, 2, none⟩ = some (.string h.arg) ∧ w.cell? ⟨g, 3, none⟩ = some (.int .i64 h.num) ∧ w.cell? ⟨g, 4, none⟩ = some (.int .i8 h.tk) ∧
  w.cell? ⟨g, 5, none⟩ = some (.slice p.TA p.tn p.tc) ∧ w.cell? ⟨g, 6, none⟩ = some (.int .i8 h.uk) ∧ w.cell? ⟨g, 7, none⟩ = some (.slice p.UA p.un p.uc) ∧ w.cell? ⟨g, 8, none⟩ = some (.int .i64 h.label) ∧ w.cell? ⟨g, 9, none⟩ = some (.int .i64 h.pos) ∧
  w.cell? ⟨g, 10, none⟩ = some (.slice p.A p.n p.c)
theorem RowBr.below {w w' : World} {g : Nat} {h : Hd} {p : Pl} (hr : RowBr w g h p) (hb : Below w.heap.size w w') : RowBr w' g h p := by
  have hl := Ty.cell_lt hr.1
  have hc := fun o => (bcell hb).1 g o hl
  unfold RowBr at *
  rw [hc, hc, hc, hc, hc, hc, hc, hc, hc, hc, hc]
  exact hr
theorem RowBr.of_heap {w : World} {g : Nat} {h : Hd} {p : Pl} (hh : w.heap[g]? = some (.cells #[.int .i8 h.kind, .string h.name, .string h.arg, .int .i64 h.num, .int .i8 h.tk, .slice p.TA p.tn p.tc, .int .i8 h.uk, .slice p.UA p.un p.uc, .int .i64 h.label, .int .i64 h.pos, .slice p.A p.n p.c] 28 (0, 0))) : RowBr w g h p := by
  obtain ⟨q0, q1, q2, q3, q4, q5, q6, q7, q8, q9, q10, _⟩ := own11 hh
  exact ⟨q0, q1, q2, q3, q4, q5, q6, q7, q8, q9, q10⟩


attribute [local go_sem ↓] Go.wp_at_zero Go.wp_at_succ
set_option maxHeartbeats 4000000 in
set_option maxRecDepth 100000 in
theorem law_TermsBare (h : Hd) (kids : Tm) (p : Pl) (w : World) (hIs : Tm.Is w h kids p) (hG : TGlob w) :
    Calls Tryz.prog 3 #[.agg #[.int .i8 h.kind, .string h.name, .string h.arg, .int .i64 h.num, .int .i8 h.tk, .slice p.TA p.tn p.tc, .int .i8 h.uk, .slice p.UA p.un p.uc, .int .i64 h.label, .int .i64 h.pos, .slice p.A p.n p.c]] w fun e w' => e = .returned (.bool true) ∧ Below w.heap.size w w' := by
  have hB0 : Below w.heap.size w (w.alloc (.cells #[.int .i8 h.kind, .string h.name, .string h.arg, .int .i64 h.num, .int .i8 h.tk, .slice p.TA p.tn p.tc, .int .i8 h.uk, .slice p.UA p.un p.uc, .int .i64 h.label, .int .i64 h.pos, .slice p.A p.n p.c] 28)) := (Below.refl _ _).alloc (Nat.le_refl _) _
  have hIs1 := hIs.below hB0
  have hG1 := hG.below hB0
  have HRO := Lib.hid (RowBr.of_heap (heap_new w (.cells #[.int .i8 h.kind, .string h.name, .string h.arg, .int .i64 h.num, .int .i8 h.tk, .slice p.TA p.tn p.tc, .int .i8 h.uk, .slice p.UA p.un p.uc, .int .i64 h.label, .int .i64 h.pos, .slice p.A p.n p.c] 28)))
  clear hIs hG
  generalize hw1 : w.alloc (.cells #[.int .i8 h.kind, .string h.name, .string h.arg, .int .i64 h.num, .int .i8 h.tk, .slice p.TA p.tn p.tc, .int .i8 h.uk, .slice p.UA p.un p.uc, .int .i64 h.label, .int .i64 h.pos, .slice p.A p.n p.c] 28) = w1 at *
  have HW1 := Lib.hid hw1
  clear hw1
  have C1 := Lib.hid (fun (W : World) (hb : Below w1.heap.size w1 W) => show Calls Tryz.prog 10 #[.agg #[.int .i8 h.kind, .string h.name, .string h.arg, .int .i64 h.num, .int .i8 h.tk, .slice p.TA p.tn p.tc, .int .i8 h.uk, .slice p.UA p.un p.uc, .int .i64 h.label, .int .i64 h.pos, .slice p.A p.n p.c]] W (fun e w' => ∃ p', e = .returned (.agg #[.int .i8 (Tm.bH h kids).kind, .string (Tm.bH h kids).name, .string (Tm.bH h kids).arg, .int .i64 (Tm.bH h kids).num, .int .i8 (Tm.bH h kids).tk, .slice p'.TA p'.tn p'.tc, .int .i8 (Tm.bH h kids).uk, .slice p'.UA p'.un p'.uc, .int .i64 (Tm.bH h kids).label, .int .i64 (Tm.bH h kids).pos, .slice p'.A p'.n p'.c]) ∧ Tm.Is w' (Tm.bH h kids) (Tm.bK h kids) p' ∧ Below W.heap.size W w') from tbare_any h kids p W (hIs1.below hb) (hG1.below hb))
  have C2 := Lib.hid (fun (W : World) (hb : Below w1.heap.size w1 W) => show Calls Tryz.prog 11 #[.agg #[.int .i8 h.kind, .string h.name, .string h.arg, .int .i64 h.num, .int .i8 h.tk, .slice p.TA p.tn p.tc, .int .i8 h.uk, .slice p.UA p.un p.uc, .int .i64 h.label, .int .i64 h.pos, .slice p.A p.n p.c]] W (fun e w' => ∃ p', e = .returned (.agg #[.int .i8 (Tm.bH h kids).kind, .string (Tm.bH h kids).name, .string (Tm.bH h kids).arg, .int .i64 (Tm.bH h kids).num, .int .i8 (Tm.bH h kids).tk, .slice p'.TA p'.tn p'.tc, .int .i8 (Tm.bH h kids).uk, .slice p'.UA p'.un p'.uc, .int .i64 (Tm.bH h kids).label, .int .i64 (Tm.bH h kids).pos, .slice p'.A p'.n p'.c]) ∧ Tm.Is w' (Tm.bH h kids) (Tm.bK h kids) p' ∧ Below W.heap.size W w') from trefbare_any h kids p W (hIs1.below hb))
  generalize Tm.bH h kids = a at *
  generalize Tm.bK h kids = bk at *
  have C3 := Lib.hid (fun (W : World) (p1 p2 : Pl) (h1 : Tm.Is W a bk p1) (h2 : Tm.Is W a bk p2) => whole_any (Tm.nodes bk + 1) a bk p1 p2 W (by omega) h1 h2)
  have D0 : Below w1.heap.size w1 w1.drew := (Below.refl _ _).drew
  clear hIs1 hG1
  go_enter Tryz.func3, Tryz.ntmps3
  go_wp2_with fail
  rw [HW1.out]
  go_region_held3 (fun w' => w'.cell? ⟨w.heap.size, 0, none⟩ = some (.int .i8 h.kind) ∧ w'.cell? ⟨w.heap.size, 1, none⟩ = some (.string h.name) ∧ w'.cell? ⟨w.heap.size, 2, none⟩ = some (.string h.arg) ∧ w'.cell? ⟨w.heap.size, 3, none⟩ = some (.int .i64 h.num) ∧ w'.cell? ⟨w.heap.size, 4, none⟩ = some (.int .i8 h.tk) ∧ w'.cell? ⟨w.heap.size, 5, none⟩ = some (.slice p.TA p.tn p.tc) ∧ w'.cell? ⟨w.heap.size, 6, none⟩ = some (.int .i8 h.uk) ∧ w'.cell? ⟨w.heap.size, 7, none⟩ = some (.slice p.UA p.un p.uc) ∧ w'.cell? ⟨w.heap.size, 8, none⟩ = some (.int .i64 h.label) ∧ w'.cell? ⟨w.heap.size, 9, none⟩ = some (.int .i64 h.pos) ∧ w'.cell? ⟨w.heap.size, 10, none⟩ = some (.slice p.A p.n p.c))
    (first | exact HRO.out.below D3 | exact HRO.out.below D2 | exact HRO.out.below D1 | exact HRO.out.below D0)
    (first
      | (go_at_call 10; (with_reducible refine (C1.out _ D0).mono ?_); rintro e u1 ⟨p1, rfl, hI, hb⟩; have D1 := D0.trans hb; have HI1 := Lib.hid hI; clear hb hI)
      | (go_at_call 11; (with_reducible refine (C2.out _ D1).mono ?_); rintro e u2 ⟨p2, rfl, hI, hb⟩; have D2 := D1.trans (hb.mono D1.size); have HJ1 := Lib.hid (HI1.out.below hb); have HJ2 := Lib.hid hI; clear hb hI)
      | (go_at_call 9; (with_reducible refine (C3.out _ p1 p2 HJ1.out HJ2.out).mono ?_); rintro e u3 ⟨rfl, hb⟩; have D3 := D2.trans (hb.mono D2.size); clear hb))
  go_wp2_with fail
  go_ret
  exact ⟨rfl, hB0.trans (D3.mono hB0.size)⟩
end Go.Proofs.YtfkbdpehdabepaaGreatDoor
