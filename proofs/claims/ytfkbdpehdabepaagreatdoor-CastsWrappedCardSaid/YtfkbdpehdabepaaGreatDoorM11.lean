/-
  slices.EqualFunc over terms; terms.alike, Same. terms.alike. The law's kind and Whole, where both are the same. The law's LikeTerm, of two places where one term lies. gen_liket.py wrote this.
-/
import Derived.Test.YtfkbdpehdabepaaGreatDoorTmCount
import Derived.Deep.RegionLaw
import Derived.Deep.DeepCutAuto
import Derived.StillTailTactics
import Derived.Test.YtfkbdpehdabepaaGreatDoorM13
import Derived.Test.YtfkbdpehdabepaaGreatDoorLow
import Derived.Test.YtfkbdpehdabepaaGreatDoorM8
namespace Go.Proofs.YtfkbdpehdabepaaGreatDoor
open Go.RowKit

namespace Tm
end Tm

end Go.Proofs.YtfkbdpehdabepaaGreatDoor
namespace Go.Proofs.YtfkbdpehdabepaaGreatDoor
open Go.RowKit

theorem below_only11 {B g : Nat} {a w : World} (hb : Below B a w) (h : B ≤ g) (v0 v1 v2 v3 v4 v5 v6 v7 v8 v9 v10 : Value) : Below B a (((((((((((w.setCell ⟨g, 0, none⟩ v0).setCell ⟨g, 1, none⟩ v1).setCell ⟨g, 2, none⟩ v2).setCell ⟨g, 3, none⟩ v3).setCell ⟨g, 4, none⟩ v4).setCell ⟨g, 5, none⟩ v5).setCell ⟨g, 6, none⟩ v6).setCell ⟨g, 7, none⟩ v7).setCell ⟨g, 8, none⟩ v8).setCell ⟨g, 9, none⟩ v9).setCell ⟨g, 10, none⟩ v10) :=
  ((((((((((hb.setCell (p := ⟨g, 0, none⟩) h _).setCell (p := ⟨g, 1, none⟩) h _).setCell (p := ⟨g, 2, none⟩) h _).setCell (p := ⟨g, 3, none⟩) h _).setCell (p := ⟨g, 4, none⟩) h _).setCell (p := ⟨g, 5, none⟩) h _).setCell (p := ⟨g, 6, none⟩) h _).setCell (p := ⟨g, 7, none⟩) h _).setCell (p := ⟨g, 8, none⟩) h _).setCell (p := ⟨g, 9, none⟩) h _).setCell (p := ⟨g, 10, none⟩) h _

attribute [local go_sem ↓] Go.wp_at_zero Go.wp_at_succ
end Go.Proofs.YtfkbdpehdabepaaGreatDoor
namespace Go.Proofs.YtfkbdpehdabepaaGreatDoor
open Go.RowKit

end Go.Proofs.YtfkbdpehdabepaaGreatDoor
namespace Go.Proofs.YtfkbdpehdabepaaGreatDoor
open Go.RowKit

theorem eqT_own (k : Int) (kids : Fo) : Ty.eqT k kids k kids = true := by unfold Ty.eqT; rw [Ty.eqF_refl]; simp
theorem like_own (k : Int) (kids : Fo) (A : Option Addr) (n c : Nat) (A' : Option Addr) (n' c' : Nat) (w : World) (h : Ty.Is w k kids A n c) (h' : Ty.Is w k kids A' n' c') :
    Calls Tryz.prog 22 #[.agg #[.int .i8 k, .slice A n c], .agg #[.int .i8 k, .slice A' n' c']] w fun e w' => e = .returned (.bool true) ∧ Below w.heap.size w w' := by
  have := like_any (Ty.nodes kids + 1) k kids A n c k kids A' n' c' w (Nat.lt_succ_self _) h h'
  rw [eqT_own] at this
  exact this

set_option maxHeartbeats 4000000 in
set_option maxRecDepth 100000 in
theorem liket_any (K : Nat) : ∀ (h : Hd) (kids : Tm) (p p' : Pl) (w : World), Tm.nodes kids < K → Tm.Is w h kids p → Tm.Is w h kids p' →
    Calls Tryz.prog 28 #[.agg #[.int .i8 h.kind, .string h.name, .string h.arg, .int .i64 h.num, .int .i8 h.tk, .slice p.TA p.tn p.tc, .int .i8 h.uk, .slice p.UA p.un p.uc, .int .i64 h.label, .int .i64 h.pos, .slice p.A p.n p.c], .agg #[.int .i8 h.kind, .string h.name, .string h.arg, .int .i64 h.num, .int .i8 h.tk, .slice p'.TA p'.tn p'.tc, .int .i8 h.uk, .slice p'.UA p'.un p'.uc, .int .i64 h.label, .int .i64 h.pos, .slice p'.A p'.n p'.c]] w fun e w' => e = .returned (.bool true) ∧ Below w.heap.size w w' := by
  induction K with
  | zero => intro _ _ _ _ _ hK; omega
  | succ K ih =>
    intro h kids p p' w hK hIs hIs'
    have i5 : (p.n : Int) ≤ 9223372036854775807 := by have h1 := hIs.fit.n_le; have h2 := hIs.fit.c_le; unfold maxLen at h2; omega
    have hnn : p'.n = p.n := by rw [hIs.fit.n_eq, hIs'.fit.n_eq]
    have i6 : (p'.n : Int) ≤ 9223372036854775807 := by omega
    have e9 : ((p.n : Int) != (p'.n : Int)) = false := by rw [hnn]; simp
    have hB0 : Below w.heap.size w ((w.alloc (.cells #[.int .i8 h.kind, .string h.name, .string h.arg, .int .i64 h.num, .int .i8 h.tk, .slice p.TA p.tn p.tc, .int .i8 h.uk, .slice p.UA p.un p.uc, .int .i64 h.label, .int .i64 h.pos, .slice p.A p.n p.c] 28)).alloc (.cells #[.int .i8 h.kind, .string h.name, .string h.arg, .int .i64 h.num, .int .i8 h.tk, .slice p'.TA p'.tn p'.tc, .int .i8 h.uk, .slice p'.UA p'.un p'.uc, .int .i64 h.label, .int .i64 h.pos, .slice p'.A p'.n p'.c] 28)) := ((Below.refl _ _).alloc (Nat.le_refl _) _).alloc (by simp) _
    obtain ⟨r0, r1, r2⟩ := two_new w (.cells #[.int .i8 h.kind, .string h.name, .string h.arg, .int .i64 h.num, .int .i8 h.tk, .slice p.TA p.tn p.tc, .int .i8 h.uk, .slice p.UA p.un p.uc, .int .i64 h.label, .int .i64 h.pos, .slice p.A p.n p.c] 28) (.cells #[.int .i8 h.kind, .string h.name, .string h.arg, .int .i64 h.num, .int .i8 h.tk, .slice p'.TA p'.tn p'.tc, .int .i8 h.uk, .slice p'.UA p'.un p'.uc, .int .i64 h.label, .int .i64 h.pos, .slice p'.A p'.n p'.c] 28)
    have hI1 := hIs.below hB0
    have hI2 := hIs'.below hB0
    have IH := Lib.hid ih
    have HNN := Lib.hid hnn
    clear ih hnn
    go_enter Tryz.func28, Tryz.ntmps28
    go_upto_region 1 with fail
    generalize hw1 : (w.alloc (.cells #[.int .i8 h.kind, .string h.name, .string h.arg, .int .i64 h.num, .int .i8 h.tk, .slice p.TA p.tn p.tc, .int .i8 h.uk, .slice p.UA p.un p.uc, .int .i64 h.label, .int .i64 h.pos, .slice p.A p.n p.c] 28)).alloc (.cells #[.int .i8 h.kind, .string h.name, .string h.arg, .int .i64 h.num, .int .i8 h.tk, .slice p'.TA p'.tn p'.tc, .int .i8 h.uk, .slice p'.UA p'.un p'.uc, .int .i64 h.label, .int .i64 h.pos, .slice p'.A p'.n p'.c] 28) = w1 at *
    have D1 := Lib.hid (fun (W : World) (hb : Below w1.heap.size w1 W) => like_own h.tk h.tkids p.TA p.tn p.tc p'.TA p'.tn p'.tc W (hI1.below hb).fit.ty (hI2.below hb).fit.ty)
    have D2 := Lib.hid (fun (W : World) (hb : Below w1.heap.size w1 W) => like_own h.uk h.ukids p.UA p.un p.uc p'.UA p'.un p'.uc W (hI1.below hb).fit.to (hI2.below hb).fit.to)
    have HB0 := Lib.hid hB0
    have HI1 := Lib.hid hI1
    have HI2 := Lib.hid hI2
    have R0 := Lib.hid r0
    have R1 := Lib.hid r1
    obtain ⟨q0, q1, q2, q3, q4, q5, q6, q7, q8, q9, q10, ql⟩ := own11 r0
    obtain ⟨d0, d1, d2, d3, d4, d5, d6, d7, d8, d9, d10, dl⟩ := own11 r1
    clear hI1 hI2 hB0 hw1 hIs hIs' r0 r1
    go_wp2_with fail
    refine (D1.out _ (Below.refl _ _)).mono ?_
    rintro e w2 ⟨rfl, hb2⟩
    clear q0 q1 q2 q3 q4 q5 q6 q7 q8 q9 q10 ql d0 d1 d2 d3 d4 d5 d6 d7 d8 d9 d10 dl
    obtain ⟨q0, q1, q2, q3, q4, q5, q6, q7, q8, q9, q10, ql⟩ := own11 (heap_below hb2 (heap_lt R0.out) R0.out)
    obtain ⟨d0, d1, d2, d3, d4, d5, d6, d7, d8, d9, d10, dl⟩ := own11 (heap_below hb2 (heap_lt R1.out) R1.out)
    go_wp2_with fail
    refine (D2.out _ hb2).mono ?_
    rintro e w3 ⟨rfl, hb3⟩
    clear q0 q1 q2 q3 q4 q5 q6 q7 q8 q9 q10 ql d0 d1 d2 d3 d4 d5 d6 d7 d8 d9 d10 dl
    have E := hb2.trans (hb3.mono hb2.size)
    clear hb2 hb3
    have hI2 := HI1.out.below E
    have hI3 := HI2.out.below E
    have HS := Lib.hid (OverT.start hI2.lies hI2.fit.n_eq)
    have HS2 := Lib.hid hI3.lies
    have HB2 := Lib.hid (HB0.out.trans (E.mono HB0.out.size))
    have HX2 := Lib.hid (heap_below E (heap_lt R0.out) R0.out)
    have HY2 := Lib.hid (heap_below E (heap_lt R1.out) R1.out)
    clear E hI2 hI3 HI1 HI2 HB0 R0 R1 D1 D2
    obtain ⟨q0, q1, q2, q3, q4, q5, q6, q7, q8, q9, q10, ql⟩ := own11 HX2.out
    obtain ⟨d0, d1, d2, d3, d4, d5, d6, d7, d8, d9, d10, dl⟩ := own11 HY2.out
    go_wp2_with fail
    clear q0 q1 q2 q3 q4 q5 q6 q7 q8 q9 q10 ql d0 d1 d2 d3 d4 d5 d6 d7 d8 d9 d10 dl e9
    go_loopw [5] (fun v wr => ∃ (i : Nat) (rest : Tm), v = .int .i64 i ∧ OverT w3 wr p.A p.n (Tm.nodes kids) i rest ∧ Tm.Lies wr rest p'.A i) (fun v _ => p.n - (intOf v).toNat)
    case atStart => exact ⟨0, kids, rfl, HS.out, HS2.out⟩
    case round =>
      obtain ⟨i, rest, rfl, hO, hO2⟩ := hrel
      have hbB := HB2.out.trans (hO.below.mono HB2.out.size)
      obtain ⟨q0, q1, q2, q3, q4, q5, q6, q7, q8, q9, q10, ql⟩ := own11 (heap_below hO.below (heap_lt HX2.out) HX2.out)
      obtain ⟨d0, d1, d2, d3, d4, d5, d6, d7, d8, d9, d10, dl⟩ := own11 (heap_below hO.below (heap_lt HY2.out) HY2.out)
      cases rest with
      | nil =>
        have hi : i = p.n := by have := hO.i_eq; simpa [Tm.len] using this
        clear hO hO2
        subst hi
        go_wp2_with fail
        go_ret
        exact ⟨rfl, hbB⟩
      | node h2 kd r =>
        have hst := fun w2 hb => OverT.step (w2 := w2) hO hb
        have h1 := hO.i_eq
        have h3 := hO.sub
        have hl := hO.lies
        simp only [Tm.len, Tm.nodes] at h1 h3
        have j1 : (i : Int) < p.n := by omega
        have j2 : (0 : Int) ≤ i ∧ (i : Int) < p.n := by omega
        have j3 : (i : Int) < p'.n := by have := HNN.out; omega
        have j4 : (0 : Int) ≤ i ∧ (i : Int) < p'.n := by omega
        obtain ⟨bb, oo, g, hA, hcs, hfit, hl3, hl4⟩ := hl
        obtain ⟨bb2, oo2, g2, hA2, hcs2, hfit2, hl32, hl42⟩ := hO2
        rw [hA] at q10
        rw [hA2] at d10
        have D1 := Lib.hid (fun (W : World) (hb : Below wr.heap.size wr W) => IH.out h2 kd g g2 W (by omega) (Tm.Is.below ⟨hfit, hl3⟩ hb) (Tm.Is.below ⟨hfit2, hl32⟩ hb))
        obtain ⟨c0, c1, c2, c3, c4, c5, c6, c7, c8, c9, c10⟩ := Tm.row hcs
        obtain ⟨b0, b1, b2, b3, b4, b5, b6, b7, b8, b9, b10⟩ := Tm.row hcs2
        have HST := Lib.hid hst
        have HL := Lib.hid hl4
        have HL2 := Lib.hid hl42
        clear hst hl3 hl4 hl32 hl42 hO hcs hcs2 hfit hfit2
        go_upto_region 6 with fail
        have YQ10 := later_cell q10
        have YD10 := later_cell d10
        have C0 := later_cell c0
        have C1 := later_cell c1
        have C2 := later_cell c2
        have C3 := later_cell c3
        have C4 := later_cell c4
        have C5 := later_cell c5
        have C6 := later_cell c6
        have C7 := later_cell c7
        have C8 := later_cell c8
        have C9 := later_cell c9
        have C10 := later_cell c10
        have B0 := later_cell b0
        have B1 := later_cell b1
        have B2 := later_cell b2
        have B3 := later_cell b3
        have B4 := later_cell b4
        have B5 := later_cell b5
        have B6 := later_cell b6
        have B7 := later_cell b7
        have B8 := later_cell b8
        have B9 := later_cell b9
        have B10 := later_cell b10
        clear q0 q1 q2 q3 q4 q5 q6 q7 q8 q9 q10 ql d0 d1 d2 d3 d4 d5 d6 d7 d8 d9 d10 dl c0 c1 c2 c3 c4 c5 c6 c7 c8 c9 c10 b0 b1 b2 b3 b4 b5 b6 b7 b8 b9 b10
        refine wp_region_low (by kernel_rfl) (by kernel_rfl) ?_
        repeat
          first
            | go_big_quiet_skip
            | (go_big_quiet_want
               go_big_quiet_op
               first
                 | go_big_quiet_on
                 | (refine ⟨_, fun _ => rfl, ?_⟩
                    go_big_quiet_on)
                 | (apply Exists.intro
                    refine ⟨fun h => ?_, ?_⟩
                    · first
                        | (go_at_call 28; with_reducible exact call_low h (D1.out h.u h.low))
                    go_big_quiet_on))
        refine wpQuiet_nil ?_
        rintro w4 ⟨⟨_, E⟩, rfl⟩
        have hbb := Lib.hid (HST.out _ E HL.out)
        have hb2 := Lib.hid (HL2.out.below E)
        clear E
        go_wp2_with fail
        go_roundw
        case rel => exact ⟨i + 1, r, by go_num, hbb.out, hb2.out⟩
        case measure => simp [intOf]; omega
end Go.Proofs.YtfkbdpehdabepaaGreatDoor
