/-
  P8.2, P8.3: below is both; more precise is positively below, and negatively above. The law's walk.
-/
import Derived.Test.YtdeomggkhbdkaaaDoorBl6
import Derived.Test.YtdeomggkhbdkaaaDoorLow
import Derived.Test.YtdeomggkhbdkaaaDoorOr2
namespace Go.Proofs.YtdeomggkhbdkaaaDoor
open Go.RowKit

set_option maxHeartbeats 8000000 in
set_option maxRecDepth 100000 in
theorem law_BelowBoth (k : Int) (kids : Fo) (A : Option Addr) (n c : Nat) (k' : Int) (kids' : Fo) (A' : Option Addr) (n' c' : Nat) (w : World) (hIs : Ty.Is w k kids A n c) (hIs' : Ty.Is w k' kids' A' n' c') (hS : Shapes w) :
    Calls Tryd.prog 4 #[.agg #[.int .i8 k, .slice A n c], .agg #[.int .i8 k', .slice A' n' c']] w fun e w' => e = .returned (.bool true) ∧ Below w.heap.size w w' := by
  obtain ⟨hB0, hR0, hR1⟩ := two_boxes w k A n c k' A' n' c'
  generalize hw1 : (w.alloc (.cells #[.int .i8 k, .slice A n c] 25)).alloc (.cells #[.int .i8 k', .slice A' n' c'] 25) = w1 at *
  have HW1 := Lib.hid hw1
  have HB1 := Lib.hid hB0
  have HX1 := Lib.hid hR0
  have HY1 := Lib.hid hR1
  have D0 := Lib.hid (fun (u : World) (hE : Below w1.heap.size w1 u) => below0_any k kids A n c k' kids' A' n' c' u (hIs.below (HB1.out.trans (hE.mono HB1.out.size))) (hIs'.below (HB1.out.trans (hE.mono HB1.out.size))) (hS.below (HB1.out.trans (hE.mono HB1.out.size))))
  have D1 := Lib.hid (fun (u : World) (hE : Below w1.heap.size w1 u) => below1_any k kids A n c k' kids' A' n' c' u (hIs.below (HB1.out.trans (hE.mono HB1.out.size))) (hIs'.below (HB1.out.trans (hE.mono HB1.out.size))) (hS.below (HB1.out.trans (hE.mono HB1.out.size))))
  have D2 := Lib.hid (fun (u : World) (hE : Below w1.heap.size w1 u) => below2_any k kids A n c k' kids' A' n' c' u (hIs.below (HB1.out.trans (hE.mono HB1.out.size))) (hIs'.below (HB1.out.trans (hE.mono HB1.out.size))) (hS.below (HB1.out.trans (hE.mono HB1.out.size))))
  have DN := Lib.hid (fun (u : World) (hE : Below w1.heap.size w1 u) => below2_any k' kids' A' n' c' k kids A n c u (hIs'.below (HB1.out.trans (hE.mono HB1.out.size))) (hIs.below (HB1.out.trans (hE.mono HB1.out.size))) (hS.below (HB1.out.trans (hE.mono HB1.out.size))))
  have DL := Lib.hid (fun (u : World) (hE : Below w1.heap.size w1 u) => oless_any k' kids' A' n' c' k kids A n c u (hIs'.below (HB1.out.trans (hE.mono HB1.out.size))) (hIs.below (HB1.out.trans (hE.mono HB1.out.size))) (hS.below (HB1.out.trans (hE.mono HB1.out.size))))
  have DW := Lib.hid (fun (u : World) (hE : Below w1.heap.size w1 u) => wakes8_any u (hS.below (HB1.out.trans (hE.mono HB1.out.size))))
  rw [Ty.bel_both] at D0
  rw [Ty.bel_less] at DL
  generalize Ty.belowT 1 k kids k' kids' = R1 at *
  generalize Ty.belowT 2 k kids k' kids' = R2 at *
  generalize Ty.belowT 2 k' kids' k kids = R3 at *
  have hR2 : (R2 != R2) = false := by simp
  have hR3 : (R3 == R3) = true := by simp
  clear hB0 hR0 hR1 hIs hIs' hS hw1
  cases R1
  all_goals
    simp only [Bool.false_and, Bool.true_and] at D0 DL
    go_enter Tryd.func4, Tryd.ntmps4
    go_wp2_with fail
    rw [HW1.out]
    obtain ⟨x0, x1, _, _, hxl⟩ := own2 HX1.out
    obtain ⟨y0, y1, _, _, hyl⟩ := own2 HY1.out
    have X0 := later_cell x0
    have X1 := later_cell x1
    have Y0 := later_cell y0
    have Y1 := later_cell y1
    clear x0 x1 y0 y1 hxl hyl
    refine wp_region_low (by kernel_rfl) (by kernel_rfl) ?_
    repeat
      first
        | go_big_quiet_skip
        | (go_big_quiet_want
           go_big_quiet_op
           first
             | go_big_quiet_on
             | (refine ⟨_, fun _ => rfl, ?_⟩
                go_big_quiet_on)
             | (apply Exists.intro
                refine ⟨fun h => ?_, ?_⟩
                · first
                    | (go_at_call 7; with_reducible exact call_low h (D0.out h.u h.low))
                    | (go_at_call 9; with_reducible exact call_low h (D1.out h.u h.low))
                    | (go_at_call 11; with_reducible exact call_low h (D2.out h.u h.low))
                go_big_quiet_on))
    refine wpQuiet_nil ?_
    rintro w2 ⟨⟨_, E2⟩, rfl⟩
    have HB2 := Lib.hid (HB1.out.trans (E2.mono HB1.out.size))
    have HX2 := Lib.hid (heap_below E2 (heap_lt HX1.out) HX1.out)
    have HY2 := Lib.hid (heap_below E2 (heap_lt HY1.out) HY1.out)
    have F1 := Lib.hid (fun (u : World) (hE : Below w2.heap.size w2 u) => D1.out u (E2.trans (hE.mono E2.size)))
    have FN := Lib.hid (fun (u : World) (hE : Below w2.heap.size w2 u) => DN.out u (E2.trans (hE.mono E2.size)))
    have FL := Lib.hid (fun (u : World) (hE : Below w2.heap.size w2 u) => DL.out u (E2.trans (hE.mono E2.size)))
    have FW := Lib.hid (fun (u : World) (hE : Below w2.heap.size w2 u) => DW.out u (E2.trans (hE.mono E2.size)))
    clear X0 X1 Y0 Y1 E2
    go_wp2_with fail
    obtain ⟨x0, x1, _, _, hxl⟩ := own2 HX2.out
    obtain ⟨y0, y1, _, _, hyl⟩ := own2 HY2.out
    have X0 := later_cell x0
    have X1 := later_cell x1
    have Y0 := later_cell y0
    have Y1 := later_cell y1
    clear x0 x1 y0 y1 hxl hyl
    refine wp_region_low (by kernel_rfl) (by kernel_rfl) ?_
    repeat
      first
        | go_big_quiet_skip
        | (go_big_quiet_want
           go_big_quiet_op
           first
             | go_big_quiet_on
             | (refine ⟨_, fun _ => rfl, ?_⟩
                go_big_quiet_on)
             | (apply Exists.intro
                refine ⟨fun h => ?_, ?_⟩
                · first
                    | (go_at_call 14; with_reducible exact call_low h (FL.out h.u h.low))
                    | (go_at_call 9; with_reducible exact call_low h (F1.out h.u h.low))
                    | (go_at_call 11; with_reducible exact call_low h (FN.out h.u h.low))
                    | (go_at_call 13; with_reducible exact call_low h (FW.out h.u h.low))
                go_big_quiet_on))
    refine wpQuiet_nil ?_
    rintro w9 ⟨⟨_, E⟩, rfl⟩
    go_wp2_with fail
    go_ret
    exact ⟨rfl, HB2.out.trans (E.mono HB2.out.size)⟩
end Go.Proofs.YtdeomggkhbdkaaaDoor
