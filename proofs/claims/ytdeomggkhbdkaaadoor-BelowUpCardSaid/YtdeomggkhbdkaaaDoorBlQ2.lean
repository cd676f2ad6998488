/-
  The document's table: functions, pairs, sums.
-/
import Derived.Test.YtdeomggkhbdkaaaDoorBlQ1
import Derived.Test.YtdeomggkhbdkaaaDoorBl3
namespace Go.Proofs.YtdeomggkhbdkaaaDoor
open Go.RowKit

set_option maxHeartbeats 4000000 in
set_option maxRecDepth 100000 in
theorem q0_fun (a1 a2 a3 a4 : Nat) (k1 : Int) (f1 : Fo) (k2 : Int) (f2 : Fo) (a5 a6 a7 a8 : Nat) (k1' : Int) (f1' : Fo) (k2' : Int) (f2' : Fo) (A : Option Addr) (n c : Nat) (A' : Option Addr) (n' c' : Nat) (w : World) (P R : Bool)
    (hIs : Ty.Is w 3 (.node a1 a2 k1 f1 (.node a3 a4 k2 f2 .nil)) A n c) (hIs' : Ty.Is w 3 (.node a5 a6 k1' f1' (.node a7 a8 k2' f2' .nil)) A' n' c') (h1 : RQ 23 k1' f1' k1 f1 P) (h2 : RQ 23 k2 f2 k2' f2' R) :
    Calls Tryd.prog 23 #[.agg #[.int .i8 3, .slice A n c], .agg #[.int .i8 3, .slice A' n' c']] w fun e w' => e = .returned (.bool (P && R)) ∧ Below w.heap.size w w' := by
  obtain ⟨hB0, hR0, hR1⟩ := two_boxes w 3 A n c 3 A' n' c'
  generalize hw1 : (w.alloc (.cells #[.int .i8 3, .slice A n c] 25)).alloc (.cells #[.int .i8 3, .slice A' n' c'] 25) = w1 at *
  have HW1 := Lib.hid hw1
  have HB1 := Lib.hid hB0
  have HX1 := Lib.hid hR0
  have HY1 := Lib.hid hR1
  obtain ⟨b0, b1, _, _, hb0⟩ := own2 hR0
  obtain ⟨c0, c1, _, _, hc0⟩ := own2 hR1
  clear hw1 hB0 hR0 hR1
  obtain ⟨bb, oo, B1, cc1, B2, cc2, rfl, rfl, q1, q2, x0, x1, x2, x3, hi1, hi2⟩ := two_parts (hIs.below HB1.out)
  obtain ⟨bb', oo', B1', cc1', B2', cc2', rfl, rfl, q1', q2', y0, y1, y2, y3, hj1, hj2⟩ := two_parts (hIs'.below HB1.out)
  have D1 := Lib.hid (fun (u : World) (hE : Below w1.heap.size w1 u) => h1 B1' _ cc1' B1 _ cc1 u (hj1.below hE) (hi1.below hE))
  have D2 := Lib.hid (fun (u : World) (hE : Below w1.heap.size w1 u) => h2 B2 _ cc2 B2' _ cc2' u (hi2.below hE) (hj2.below hE))
  generalize Ty.len f1 = n1 at *
  generalize Ty.len f2 = n2 at *
  generalize Ty.len f1' = n1' at *
  generalize Ty.len f2' = n2' at *
  clear hIs hIs' h1 h2 hi1 hi2 hj1 hj2
  have X0 := later_cell x0
  have X1 := later_cell x1
  have X2 := later_cell x2
  have X3 := later_cell x3
  have Y0 := later_cell y0
  have Y1 := later_cell y1
  have Y2 := later_cell y2
  have Y3 := later_cell y3
  have BB0 := later_cell b0
  have BB1 := later_cell b1
  have CC0 := later_cell c0
  have CC1 := later_cell c1
  go_enter Tryd.func23, Tryd.ntmps23
  go_upto_region 1 with fail
  rw [HW1.out]
  go_wp2_with fail
  clear x0 x1 x2 x3 y0 y1 y2 y3 b0 b1 hb0 c0 c1 hc0
  cases P
  all_goals
    refine wp_region_low (by kernel_rfl) (by kernel_rfl) ?_
    repeat
      first
        | go_big_quiet_skip
        | (go_big_quiet_want
           go_big_quiet_op
           first
             | go_big_quiet_on
             | (refine ⟨_, fun _ => rfl, ?_⟩
                go_big_quiet_on)
             | (apply Exists.intro
                refine ⟨fun h => ?_, ?_⟩
                · first
                    | (with_reducible exact call_low h (D1.out h.u h.low))
                    | (with_reducible exact call_low h (D2.out h.u h.low))
                go_big_quiet_on))
    refine wpQuiet_nil ?_
    rintro w9 ⟨⟨_, E⟩, rfl⟩
    go_wp2_with fail
    go_ret
    exact ⟨rfl, HB1.out.trans (E.mono HB1.out.size)⟩

set_option maxHeartbeats 4000000 in
set_option maxRecDepth 100000 in
theorem q0_two (k : Int) (hk : k = 4 ∨ k = 5) (a1 a2 a3 a4 : Nat) (k1 : Int) (f1 : Fo) (k2 : Int) (f2 : Fo) (a5 a6 a7 a8 : Nat) (k1' : Int) (f1' : Fo) (k2' : Int) (f2' : Fo) (A : Option Addr) (n c : Nat) (A' : Option Addr) (n' c' : Nat) (w : World) (P R : Bool)
    (hIs : Ty.Is w k (.node a1 a2 k1 f1 (.node a3 a4 k2 f2 .nil)) A n c) (hIs' : Ty.Is w k (.node a5 a6 k1' f1' (.node a7 a8 k2' f2' .nil)) A' n' c') (h1 : RQ 23 k1 f1 k1' f1' P) (h2 : RQ 23 k2 f2 k2' f2' R) :
    Calls Tryd.prog 23 #[.agg #[.int .i8 k, .slice A n c], .agg #[.int .i8 k, .slice A' n' c']] w fun e w' => e = .returned (.bool (P && R)) ∧ Below w.heap.size w w' := by
  obtain ⟨hB0, hR0, hR1⟩ := two_boxes w k A n c k A' n' c'
  generalize hw1 : (w.alloc (.cells #[.int .i8 k, .slice A n c] 25)).alloc (.cells #[.int .i8 k, .slice A' n' c'] 25) = w1 at *
  have HW1 := Lib.hid hw1
  have HB1 := Lib.hid hB0
  have HX1 := Lib.hid hR0
  have HY1 := Lib.hid hR1
  obtain ⟨b0, b1, _, _, hb0⟩ := own2 hR0
  obtain ⟨c0, c1, _, _, hc0⟩ := own2 hR1
  clear hw1 hB0 hR0 hR1
  obtain ⟨bb, oo, B1, cc1, B2, cc2, rfl, rfl, q1, q2, x0, x1, x2, x3, hi1, hi2⟩ := two_parts (hIs.below HB1.out)
  obtain ⟨bb', oo', B1', cc1', B2', cc2', rfl, rfl, q1', q2', y0, y1, y2, y3, hj1, hj2⟩ := two_parts (hIs'.below HB1.out)
  have D1 := Lib.hid (fun (u : World) (hE : Below w1.heap.size w1 u) => h1 B1 _ cc1 B1' _ cc1' u (hi1.below hE) (hj1.below hE))
  have D2 := Lib.hid (fun (u : World) (hE : Below w1.heap.size w1 u) => h2 B2 _ cc2 B2' _ cc2' u (hi2.below hE) (hj2.below hE))
  generalize Ty.len f1 = n1 at *
  generalize Ty.len f2 = n2 at *
  generalize Ty.len f1' = n1' at *
  generalize Ty.len f2' = n2' at *
  clear hIs hIs' h1 h2 hi1 hi2 hj1 hj2
  have X0 := later_cell x0
  have X1 := later_cell x1
  have X2 := later_cell x2
  have X3 := later_cell x3
  have Y0 := later_cell y0
  have Y1 := later_cell y1
  have Y2 := later_cell y2
  have Y3 := later_cell y3
  have BB0 := later_cell b0
  have BB1 := later_cell b1
  have CC0 := later_cell c0
  have CC1 := later_cell c1
  rcases hk with rfl | rfl
  all_goals
    go_enter Tryd.func23, Tryd.ntmps23
    go_upto_region 1 with fail
    rw [HW1.out]
    go_wp2_with fail
    clear x0 x1 x2 x3 y0 y1 y2 y3 b0 b1 hb0 c0 c1 hc0
    cases P
    all_goals
      refine wp_region_low (by kernel_rfl) (by kernel_rfl) ?_
      repeat
        first
          | go_big_quiet_skip
          | (go_big_quiet_want
             go_big_quiet_op
             first
               | go_big_quiet_on
               | (refine ⟨_, fun _ => rfl, ?_⟩
                  go_big_quiet_on)
               | (apply Exists.intro
                  refine ⟨fun h => ?_, ?_⟩
                  · first
                      | (with_reducible exact call_low h (D1.out h.u h.low))
                      | (with_reducible exact call_low h (D2.out h.u h.low))
                  go_big_quiet_on))
      refine wpQuiet_nil ?_
      rintro w9 ⟨⟨_, E⟩, rfl⟩
      go_wp2_with fail
      go_ret
      exact ⟨rfl, HB1.out.trans (E.mono HB1.out.size)⟩

set_option maxHeartbeats 4000000 in
set_option maxRecDepth 100000 in
theorem q1_fun (a1 a2 a3 a4 : Nat) (k1 : Int) (f1 : Fo) (k2 : Int) (f2 : Fo) (a5 a6 a7 a8 : Nat) (k1' : Int) (f1' : Fo) (k2' : Int) (f2' : Fo) (A : Option Addr) (n c : Nat) (A' : Option Addr) (n' c' : Nat) (w : World) (P R : Bool)
    (hIs : Ty.Is w 3 (.node a1 a2 k1 f1 (.node a3 a4 k2 f2 .nil)) A n c) (hIs' : Ty.Is w 3 (.node a5 a6 k1' f1' (.node a7 a8 k2' f2' .nil)) A' n' c') (h1 : RQ 27 k1' f1' k1 f1 P) (h2 : RQ 25 k2 f2 k2' f2' R) :
    Calls Tryd.prog 25 #[.agg #[.int .i8 3, .slice A n c], .agg #[.int .i8 3, .slice A' n' c']] w fun e w' => e = .returned (.bool (P && R)) ∧ Below w.heap.size w w' := by
  obtain ⟨hB0, hR0, hR1⟩ := two_boxes w 3 A n c 3 A' n' c'
  generalize hw1 : (w.alloc (.cells #[.int .i8 3, .slice A n c] 25)).alloc (.cells #[.int .i8 3, .slice A' n' c'] 25) = w1 at *
  have HW1 := Lib.hid hw1
  have HB1 := Lib.hid hB0
  have HX1 := Lib.hid hR0
  have HY1 := Lib.hid hR1
  obtain ⟨b0, b1, _, _, hb0⟩ := own2 hR0
  obtain ⟨c0, c1, _, _, hc0⟩ := own2 hR1
  clear hw1 hB0 hR0 hR1
  obtain ⟨bb, oo, B1, cc1, B2, cc2, rfl, rfl, q1, q2, x0, x1, x2, x3, hi1, hi2⟩ := two_parts (hIs.below HB1.out)
  obtain ⟨bb', oo', B1', cc1', B2', cc2', rfl, rfl, q1', q2', y0, y1, y2, y3, hj1, hj2⟩ := two_parts (hIs'.below HB1.out)
  have D1 := Lib.hid (fun (u : World) (hE : Below w1.heap.size w1 u) => h1 B1' _ cc1' B1 _ cc1 u (hj1.below hE) (hi1.below hE))
  have D2 := Lib.hid (fun (u : World) (hE : Below w1.heap.size w1 u) => h2 B2 _ cc2 B2' _ cc2' u (hi2.below hE) (hj2.below hE))
  generalize Ty.len f1 = n1 at *
  generalize Ty.len f2 = n2 at *
  generalize Ty.len f1' = n1' at *
  generalize Ty.len f2' = n2' at *
  clear hIs hIs' h1 h2 hi1 hi2 hj1 hj2
  have X0 := later_cell x0
  have X1 := later_cell x1
  have X2 := later_cell x2
  have X3 := later_cell x3
  have Y0 := later_cell y0
  have Y1 := later_cell y1
  have Y2 := later_cell y2
  have Y3 := later_cell y3
  have BB0 := later_cell b0
  have BB1 := later_cell b1
  have CC0 := later_cell c0
  have CC1 := later_cell c1
  go_enter Tryd.func25, Tryd.ntmps25
  go_upto_region 1 with fail
  rw [HW1.out]
  go_wp2_with fail
  clear x0 x1 x2 x3 y0 y1 y2 y3 b0 b1 hb0 c0 c1 hc0
  cases P
  all_goals
    refine wp_region_low (by kernel_rfl) (by kernel_rfl) ?_
    repeat
      first
        | go_big_quiet_skip
        | (go_big_quiet_want
           go_big_quiet_op
           first
             | go_big_quiet_on
             | (refine ⟨_, fun _ => rfl, ?_⟩
                go_big_quiet_on)
             | (apply Exists.intro
                refine ⟨fun h => ?_, ?_⟩
                · first
                    | (with_reducible exact call_low h (D1.out h.u h.low))
                    | (with_reducible exact call_low h (D2.out h.u h.low))
                go_big_quiet_on))
    refine wpQuiet_nil ?_
    rintro w9 ⟨⟨_, E⟩, rfl⟩
    go_wp2_with fail
    go_ret
    exact ⟨rfl, HB1.out.trans (E.mono HB1.out.size)⟩

set_option maxHeartbeats 4000000 in
set_option maxRecDepth 100000 in
theorem q1_two (k : Int) (hk : k = 4 ∨ k = 5) (a1 a2 a3 a4 : Nat) (k1 : Int) (f1 : Fo) (k2 : Int) (f2 : Fo) (a5 a6 a7 a8 : Nat) (k1' : Int) (f1' : Fo) (k2' : Int) (f2' : Fo) (A : Option Addr) (n c : Nat) (A' : Option Addr) (n' c' : Nat) (w : World) (P R : Bool)
    (hIs : Ty.Is w k (.node a1 a2 k1 f1 (.node a3 a4 k2 f2 .nil)) A n c) (hIs' : Ty.Is w k (.node a5 a6 k1' f1' (.node a7 a8 k2' f2' .nil)) A' n' c') (h1 : RQ 25 k1 f1 k1' f1' P) (h2 : RQ 25 k2 f2 k2' f2' R) :
    Calls Tryd.prog 25 #[.agg #[.int .i8 k, .slice A n c], .agg #[.int .i8 k, .slice A' n' c']] w fun e w' => e = .returned (.bool (P && R)) ∧ Below w.heap.size w w' := by
  obtain ⟨hB0, hR0, hR1⟩ := two_boxes w k A n c k A' n' c'
  generalize hw1 : (w.alloc (.cells #[.int .i8 k, .slice A n c] 25)).alloc (.cells #[.int .i8 k, .slice A' n' c'] 25) = w1 at *
  have HW1 := Lib.hid hw1
  have HB1 := Lib.hid hB0
  have HX1 := Lib.hid hR0
  have HY1 := Lib.hid hR1
  obtain ⟨b0, b1, _, _, hb0⟩ := own2 hR0
  obtain ⟨c0, c1, _, _, hc0⟩ := own2 hR1
  clear hw1 hB0 hR0 hR1
  obtain ⟨bb, oo, B1, cc1, B2, cc2, rfl, rfl, q1, q2, x0, x1, x2, x3, hi1, hi2⟩ := two_parts (hIs.below HB1.out)
  obtain ⟨bb', oo', B1', cc1', B2', cc2', rfl, rfl, q1', q2', y0, y1, y2, y3, hj1, hj2⟩ := two_parts (hIs'.below HB1.out)
  have D1 := Lib.hid (fun (u : World) (hE : Below w1.heap.size w1 u) => h1 B1 _ cc1 B1' _ cc1' u (hi1.below hE) (hj1.below hE))
  have D2 := Lib.hid (fun (u : World) (hE : Below w1.heap.size w1 u) => h2 B2 _ cc2 B2' _ cc2' u (hi2.below hE) (hj2.below hE))
  generalize Ty.len f1 = n1 at *
  generalize Ty.len f2 = n2 at *
  generalize Ty.len f1' = n1' at *
  generalize Ty.len f2' = n2' at *
  clear hIs hIs' h1 h2 hi1 hi2 hj1 hj2
  have X0 := later_cell x0
  have X1 := later_cell x1
  have X2 := later_cell x2
  have X3 := later_cell x3
  have Y0 := later_cell y0
  have Y1 := later_cell y1
  have Y2 := later_cell y2
  have Y3 := later_cell y3
  have BB0 := later_cell b0
  have BB1 := later_cell b1
  have CC0 := later_cell c0
  have CC1 := later_cell c1
  rcases hk with rfl | rfl
  all_goals
    go_enter Tryd.func25, Tryd.ntmps25
    go_upto_region 1 with fail
    rw [HW1.out]
    go_wp2_with fail
    clear x0 x1 x2 x3 y0 y1 y2 y3 b0 b1 hb0 c0 c1 hc0
    cases P
    all_goals
      refine wp_region_low (by kernel_rfl) (by kernel_rfl) ?_
      repeat
        first
          | go_big_quiet_skip
          | (go_big_quiet_want
             go_big_quiet_op
             first
               | go_big_quiet_on
               | (refine ⟨_, fun _ => rfl, ?_⟩
                  go_big_quiet_on)
               | (apply Exists.intro
                  refine ⟨fun h => ?_, ?_⟩
                  · first
                      | (with_reducible exact call_low h (D1.out h.u h.low))
                      | (with_reducible exact call_low h (D2.out h.u h.low))
                  go_big_quiet_on))
      refine wpQuiet_nil ?_
      rintro w9 ⟨⟨_, E⟩, rfl⟩
      go_wp2_with fail
      go_ret
      exact ⟨rfl, HB1.out.trans (E.mono HB1.out.size)⟩

set_option maxHeartbeats 4000000 in
set_option maxRecDepth 100000 in
theorem q2_fun (a1 a2 a3 a4 : Nat) (k1 : Int) (f1 : Fo) (k2 : Int) (f2 : Fo) (a5 a6 a7 a8 : Nat) (k1' : Int) (f1' : Fo) (k2' : Int) (f2' : Fo) (A : Option Addr) (n c : Nat) (A' : Option Addr) (n' c' : Nat) (w : World) (P R : Bool)
    (hIs : Ty.Is w 3 (.node a1 a2 k1 f1 (.node a3 a4 k2 f2 .nil)) A n c) (hIs' : Ty.Is w 3 (.node a5 a6 k1' f1' (.node a7 a8 k2' f2' .nil)) A' n' c') (h1 : RQ 25 k1' f1' k1 f1 P) (h2 : RQ 27 k2 f2 k2' f2' R) :
    Calls Tryd.prog 27 #[.agg #[.int .i8 3, .slice A n c], .agg #[.int .i8 3, .slice A' n' c']] w fun e w' => e = .returned (.bool (P && R)) ∧ Below w.heap.size w w' := by
  obtain ⟨hB0, hR0, hR1⟩ := two_boxes w 3 A n c 3 A' n' c'
  generalize hw1 : (w.alloc (.cells #[.int .i8 3, .slice A n c] 25)).alloc (.cells #[.int .i8 3, .slice A' n' c'] 25) = w1 at *
  have HW1 := Lib.hid hw1
  have HB1 := Lib.hid hB0
  have HX1 := Lib.hid hR0
  have HY1 := Lib.hid hR1
  obtain ⟨b0, b1, _, _, hb0⟩ := own2 hR0
  obtain ⟨c0, c1, _, _, hc0⟩ := own2 hR1
  clear hw1 hB0 hR0 hR1
  obtain ⟨bb, oo, B1, cc1, B2, cc2, rfl, rfl, q1, q2, x0, x1, x2, x3, hi1, hi2⟩ := two_parts (hIs.below HB1.out)
  obtain ⟨bb', oo', B1', cc1', B2', cc2', rfl, rfl, q1', q2', y0, y1, y2, y3, hj1, hj2⟩ := two_parts (hIs'.below HB1.out)
  have D1 := Lib.hid (fun (u : World) (hE : Below w1.heap.size w1 u) => h1 B1' _ cc1' B1 _ cc1 u (hj1.below hE) (hi1.below hE))
  have D2 := Lib.hid (fun (u : World) (hE : Below w1.heap.size w1 u) => h2 B2 _ cc2 B2' _ cc2' u (hi2.below hE) (hj2.below hE))
  generalize Ty.len f1 = n1 at *
  generalize Ty.len f2 = n2 at *
  generalize Ty.len f1' = n1' at *
  generalize Ty.len f2' = n2' at *
  clear hIs hIs' h1 h2 hi1 hi2 hj1 hj2
  have X0 := later_cell x0
  have X1 := later_cell x1
  have X2 := later_cell x2
  have X3 := later_cell x3
  have Y0 := later_cell y0
  have Y1 := later_cell y1
  have Y2 := later_cell y2
  have Y3 := later_cell y3
  have BB0 := later_cell b0
  have BB1 := later_cell b1
  have CC0 := later_cell c0
  have CC1 := later_cell c1
  go_enter Tryd.func27, Tryd.ntmps27
  go_upto_region 1 with fail
  rw [HW1.out]
  go_wp2_with fail
  clear x0 x1 x2 x3 y0 y1 y2 y3 b0 b1 hb0 c0 c1 hc0
  cases P
  all_goals
    refine wp_region_low (by kernel_rfl) (by kernel_rfl) ?_
    repeat
      first
        | go_big_quiet_skip
        | (go_big_quiet_want
           go_big_quiet_op
           first
             | go_big_quiet_on
             | (refine ⟨_, fun _ => rfl, ?_⟩
                go_big_quiet_on)
             | (apply Exists.intro
                refine ⟨fun h => ?_, ?_⟩
                · first
                    | (with_reducible exact call_low h (D1.out h.u h.low))
                    | (with_reducible exact call_low h (D2.out h.u h.low))
                go_big_quiet_on))
    refine wpQuiet_nil ?_
    rintro w9 ⟨⟨_, E⟩, rfl⟩
    go_wp2_with fail
    go_ret
    exact ⟨rfl, HB1.out.trans (E.mono HB1.out.size)⟩

set_option maxHeartbeats 4000000 in
set_option maxRecDepth 100000 in
theorem q2_two (k : Int) (hk : k = 4 ∨ k = 5) (a1 a2 a3 a4 : Nat) (k1 : Int) (f1 : Fo) (k2 : Int) (f2 : Fo) (a5 a6 a7 a8 : Nat) (k1' : Int) (f1' : Fo) (k2' : Int) (f2' : Fo) (A : Option Addr) (n c : Nat) (A' : Option Addr) (n' c' : Nat) (w : World) (P R : Bool)
    (hIs : Ty.Is w k (.node a1 a2 k1 f1 (.node a3 a4 k2 f2 .nil)) A n c) (hIs' : Ty.Is w k (.node a5 a6 k1' f1' (.node a7 a8 k2' f2' .nil)) A' n' c') (h1 : RQ 27 k1 f1 k1' f1' P) (h2 : RQ 27 k2 f2 k2' f2' R) :
    Calls Tryd.prog 27 #[.agg #[.int .i8 k, .slice A n c], .agg #[.int .i8 k, .slice A' n' c']] w fun e w' => e = .returned (.bool (P && R)) ∧ Below w.heap.size w w' := by
  obtain ⟨hB0, hR0, hR1⟩ := two_boxes w k A n c k A' n' c'
  generalize hw1 : (w.alloc (.cells #[.int .i8 k, .slice A n c] 25)).alloc (.cells #[.int .i8 k, .slice A' n' c'] 25) = w1 at *
  have HW1 := Lib.hid hw1
  have HB1 := Lib.hid hB0
  have HX1 := Lib.hid hR0
  have HY1 := Lib.hid hR1
  obtain ⟨b0, b1, _, _, hb0⟩ := own2 hR0
  obtain ⟨c0, c1, _, _, hc0⟩ := own2 hR1
  clear hw1 hB0 hR0 hR1
  obtain ⟨bb, oo, B1, cc1, B2, cc2, rfl, rfl, q1, q2, x0, x1, x2, x3, hi1, hi2⟩ := two_parts (hIs.below HB1.out)
  obtain ⟨bb', oo', B1', cc1', B2', cc2', rfl, rfl, q1', q2', y0, y1, y2, y3, hj1, hj2⟩ := two_parts (hIs'.below HB1.out)
  have D1 := Lib.hid (fun (u : World) (hE : Below w1.heap.size w1 u) => h1 B1 _ cc1 B1' _ cc1' u (hi1.below hE) (hj1.below hE))
  have D2 := Lib.hid (fun (u : World) (hE : Below w1.heap.size w1 u) => h2 B2 _ cc2 B2' _ cc2' u (hi2.below hE) (hj2.below hE))
  generalize Ty.len f1 = n1 at *
  generalize Ty.len f2 = n2 at *
  generalize Ty.len f1' = n1' at *
  generalize Ty.len f2' = n2' at *
  clear hIs hIs' h1 h2 hi1 hi2 hj1 hj2
  have X0 := later_cell x0
  have X1 := later_cell x1
  have X2 := later_cell x2
  have X3 := later_cell x3
  have Y0 := later_cell y0
  have Y1 := later_cell y1
  have Y2 := later_cell y2
  have Y3 := later_cell y3
  have BB0 := later_cell b0
  have BB1 := later_cell b1
  have CC0 := later_cell c0
  have CC1 := later_cell c1
  rcases hk with rfl | rfl
  all_goals
    go_enter Tryd.func27, Tryd.ntmps27
    go_upto_region 1 with fail
    rw [HW1.out]
    go_wp2_with fail
    clear x0 x1 x2 x3 y0 y1 y2 y3 b0 b1 hb0 c0 c1 hc0
    cases P
    all_goals
      refine wp_region_low (by kernel_rfl) (by kernel_rfl) ?_
      repeat
        first
          | go_big_quiet_skip
          | (go_big_quiet_want
             go_big_quiet_op
             first
               | go_big_quiet_on
               | (refine ⟨_, fun _ => rfl, ?_⟩
                  go_big_quiet_on)
               | (apply Exists.intro
                  refine ⟨fun h => ?_, ?_⟩
                  · first
                      | (with_reducible exact call_low h (D1.out h.u h.low))
                      | (with_reducible exact call_low h (D2.out h.u h.low))
                  go_big_quiet_on))
      refine wpQuiet_nil ?_
      rintro w9 ⟨⟨_, E⟩, rfl⟩
      go_wp2_with fail
      go_ret
      exact ⟨rfl, HB1.out.trans (E.mono HB1.out.size)⟩

end Go.Proofs.YtdeomggkhbdkaaaDoor
