/-
  P6.1, P6.2: any two types, any kind: whether they agree, what a type is as a kind. The law's walk.
-/
import Derived.Test.YtfkbdpehdabepaaDoorAg7
import Derived.Test.YtfkbdpehdabepaaDoorLike
namespace Go.Proofs.YtfkbdpehdabepaaDoor
open Go.RowKit

theorem like_self (k : Int) (kids : Fo) (G : Option Addr) (m c : Nat) (G' : Option Addr) (m' c' : Nat) (w : World) (h : Ty.Is w k kids G m c) (h' : Ty.Is w k kids G' m' c') :
    Calls Tryd.prog 10 #[.agg #[.int .i8 k, .slice G m c], .agg #[.int .i8 k, .slice G' m' c']] w fun e w' => e = .returned (.bool true) ∧ Below w.heap.size w w' := by
  have q := like_any (Ty.nodes kids + 1) k kids G m c k kids G' m' c' w (Nat.lt_succ_self _) h h'
  have e : Ty.eqT k kids k kids = true := by unfold Ty.eqT; simp [Ty.eqF_refl]
  rw [e] at q
  exact q
set_option maxHeartbeats 8000000 in
set_option maxRecDepth 100000 in
theorem law_AgreeTells (k : Int) (kids : Fo) (A : Option Addr) (n c : Nat) (k' : Int) (kids' : Fo) (A' : Option Addr) (n' c' : Nat) (kd : Int) (w : World) (hIs : Ty.Is w k kids A n c) (hIs' : Ty.Is w k' kids' A' n' c') (hS : Shapes w) :
    Calls Tryd.prog 3 #[.agg #[.int .i8 k, .slice A n c], .agg #[.int .i8 k', .slice A' n' c'], .int .i8 kd] w fun e w' => e = .returned (.bool true) ∧ Below w.heap.size w w' := by
  obtain ⟨hB0, hR0, hR1⟩ := two_boxes w k A n c k' A' n' c'
  generalize hw1 : (w.alloc (.cells #[.int .i8 k, .slice A n c] 25)).alloc (.cells #[.int .i8 k', .slice A' n' c'] 25) = w1 at *
  have HW1 := Lib.hid hw1
  have HB1 := Lib.hid hB0
  have HX1 := Lib.hid hR0
  have HY1 := Lib.hid hR1
  have CA := Lib.hid (fun (W : World) (hb : Below w.heap.size w W) => as_any kd k kids A n c W (hIs.below hb) (hS.below hb))
  have CQ := Lib.hid (fun (W : World) (hb : Below w.heap.size w W) => qas_any kd k kids A n c W (hIs.below hb))
  have CG := Lib.hid (fun (W : World) (hb : Below w.heap.size w W) => agree_any k kids A n c k' kids' A' n' c' W (hIs.below hb) (hIs'.below hb) (hS.below hb))
  have CH := Lib.hid (fun (W : World) (hb : Below w.heap.size w W) => qagree_any k kids A n c k' kids' A' n' c' W (hIs.below hb) (hIs'.below hb))
  have CW := Lib.hid (fun (W : World) (hb : Below w.heap.size w W) => wakes6_any W (hS.below hb))
  generalize Ty.agreeT k kids k' kids' = R at *
  generalize Ty.asOk kd k kids = OK at *
  generalize Ty.asL kd k kids = l at *
  generalize Ty.asR kd k kids = r at *
  obtain ⟨lk, lf⟩ := l
  obtain ⟨rk, rf⟩ := r
  obtain ⟨b0, b1, _, _, hb0⟩ := own2 hR0
  clear hB0 hR0 hR1 hIs hIs' hS hw1
  go_enter Tryd.func3, Tryd.ntmps3
  go_wp2_with fail
  rw [HW1.out]
  go_wp2_with fail
  refine (CA.out _ HB1.out).mono ?_
  rintro e w2 ⟨G1, m1, c1, G2, m2, c2, rfl, hi1, hi2, hb⟩
  obtain ⟨hl3, hr3, -⟩ := two_new w2 (.cells #[.int .i8 lk, .slice G1 m1 c1] 25) (.cells #[.int .i8 rk, .slice G2 m2 c2] 25)
  have hb3 : Below w2.heap.size w2 ((w2.alloc (.cells #[.int .i8 lk, .slice G1 m1 c1] 25)).alloc (.cells #[.int .i8 rk, .slice G2 m2 c2] 25)) := ((Below.refl _ _).alloc (Nat.le_refl _) _).alloc (by simp) _
  have HB3 := Lib.hid (HB1.out.trans ((hb.trans (hb3.mono hb.size)).mono HB1.out.size))
  have HX3 := Lib.hid (heap_below (hb.trans (hb3.mono hb.size)) (heap_lt HX1.out) HX1.out)
  have HY3 := Lib.hid (heap_below (hb.trans (hb3.mono hb.size)) (heap_lt HY1.out) HY1.out)
  have HI1 := Lib.hid (hi1.below hb3)
  have HI2 := Lib.hid (hi2.below hb3)
  have HL3 := Lib.hid hl3
  have HR3 := Lib.hid hr3
  clear hb hb3 hi1 hi2 hl3 hr3 b0 b1 hb0 HX1 HY1
  go_upto_region 2 with fail
  generalize (w2.alloc (.cells #[.int .i8 lk, .slice G1 m1 c1] 25)).alloc (.cells #[.int .i8 rk, .slice G2 m2 c2] 25) = w3 at *
  obtain ⟨b0, b1, _, _, hb0⟩ := own2 HX3.out
  go_wp2_with fail
  refine (CQ.out _ HB3.out).mono ?_
  rintro e w4 ⟨G3, m3, c3, G4, m4, c4, rfl, hi3, hi4, hb⟩
  obtain ⟨hl5, hr5, -⟩ := two_new w4 (.cells #[.int .i8 lk, .slice G3 m3 c3] 25) (.cells #[.int .i8 rk, .slice G4 m4 c4] 25)
  have hb5 : Below w4.heap.size w4 ((w4.alloc (.cells #[.int .i8 lk, .slice G3 m3 c3] 25)).alloc (.cells #[.int .i8 rk, .slice G4 m4 c4] 25)) := ((Below.refl _ _).alloc (Nat.le_refl _) _).alloc (by simp) _
  have hb6 := hb.trans (hb5.mono hb.size)
  have HB5 := Lib.hid (HB3.out.trans (hb6.mono HB3.out.size))
  have HX5 := Lib.hid (heap_below hb6 (heap_lt HX3.out) HX3.out)
  have HY5 := Lib.hid (heap_below hb6 (heap_lt HY3.out) HY3.out)
  have HL5 := Lib.hid (heap_below hb6 (heap_lt HL3.out) HL3.out)
  have HR5 := Lib.hid (heap_below hb6 (heap_lt HR3.out) HR3.out)
  have HP5 := Lib.hid hl5
  have HQ5 := Lib.hid hr5
  have HJ1 := Lib.hid (HI1.out.below hb6)
  have HJ2 := Lib.hid (HI2.out.below hb6)
  have HJ3 := Lib.hid (hi3.below hb5)
  have HJ4 := Lib.hid (hi4.below hb5)
  clear hb hb5 hb6 hi3 hi4 hl5 hr5 b0 b1 hb0 HX3 HY3 HL3 HR3 HI1 HI2
  go_upto_region 3 with fail
  generalize (w4.alloc (.cells #[.int .i8 lk, .slice G3 m3 c3] 25)).alloc (.cells #[.int .i8 rk, .slice G4 m4 c4] 25) = w5 at *
  have D1 := Lib.hid (fun (u : World) (hE : Below w5.heap.size w5 u) => CG.out u (HB5.out.trans (hE.mono HB5.out.size)))
  have D2 := Lib.hid (fun (u : World) (hE : Below w5.heap.size w5 u) => CH.out u (HB5.out.trans (hE.mono HB5.out.size)))
  have D3 := Lib.hid (fun (u : World) (hE : Below w5.heap.size w5 u) => like_self lk lf G1 m1 c1 G3 m3 c3 u (HJ1.out.below hE) (HJ3.out.below hE))
  have D4 := Lib.hid (fun (u : World) (hE : Below w5.heap.size w5 u) => like_self rk rf G2 m2 c2 G4 m4 c4 u (HJ2.out.below hE) (HJ4.out.below hE))
  have D5 := Lib.hid (fun (u : World) (hE : Below w5.heap.size w5 u) => CW.out u (HB5.out.trans (hE.mono HB5.out.size)))
  obtain ⟨x0, x1, _, _, _⟩ := own2 HX5.out
  obtain ⟨y0, y1, _, _, _⟩ := own2 HY5.out
  obtain ⟨l0, l1, _, _, _⟩ := own2 HL5.out
  obtain ⟨r0, r1, _, _, _⟩ := own2 HR5.out
  obtain ⟨p0, p1, _, _, _⟩ := own2 HP5.out
  obtain ⟨q0, q1, _, _, _⟩ := own2 HQ5.out
  have X0 := later_cell x0
  have X1 := later_cell x1
  have Y0 := later_cell y0
  have Y1 := later_cell y1
  have L0 := later_cell l0
  have L1 := later_cell l1
  have R0 := later_cell r0
  have R1 := later_cell r1
  have P0 := later_cell p0
  have P1 := later_cell p1
  have Q0 := later_cell q0
  have Q1 := later_cell q1
  have hRR : (R == R) = true := by simp
  have hOO : (OK == OK) = true := by simp
  clear x0 x1 y0 y1 l0 l1 r0 r1 p0 p1 q0 q1 CA CQ CG CH CW HX5 HY5 HL5 HR5 HP5 HQ5 HJ1 HJ2 HJ3 HJ4
  refine wp_region_low (by kernel_rfl) (by kernel_rfl) ?_
  repeat
    first
      | go_big_quiet_skip
      | (go_big_quiet_want
         go_big_quiet_op
         first
           | go_big_quiet_on
           | (refine ⟨_, fun _ => rfl, ?_⟩
              go_big_quiet_on)
           | (apply Exists.intro
              refine ⟨fun h => ?_, ?_⟩
              · first
                  | (go_at_call 8; with_reducible exact call_low h (D1.out h.u h.low))
                  | (go_at_call 9; with_reducible exact call_low h (D2.out h.u h.low))
                  | (go_at_call 10; with_reducible exact call_low h (D3.out h.u h.low))
                  | (go_at_call 10; with_reducible exact call_low h (D4.out h.u h.low))
                  | (go_at_call 11; with_reducible exact call_low h (D5.out h.u h.low))
              go_big_quiet_on))
  refine wpQuiet_nil ?_
  rintro w9 ⟨⟨_, E⟩, rfl⟩
  go_wp2_with fail
  go_ret
  exact ⟨rfl, HB5.out.trans (E.mono HB5.out.size)⟩
end Go.Proofs.YtfkbdpehdabepaaDoor
