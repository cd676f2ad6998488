/-
  P7.1: any two types: whether the first is at most as precise as the second. The law's walk.
-/
import Derived.Test.YtocopanencbmeaaDoorOr2
import Derived.Test.YtocopanencbmeaaDoorLow
namespace Go.Proofs.YtocopanencbmeaaDoor
open Go.RowKit

theorem less_open_int (W : World) (hS : Shapes W) : Calls Tryd.prog 6 #[.agg #[.int .i8 0, .slice none 0 0], .agg #[.int .i8 1, .slice none 0 0]] W fun e w' => e = .returned (.bool true) ∧ Below W.heap.size W w' := by
  have q := oless_any 0 .nil none 0 0 1 .nil none 0 0 W ⟨trivial, rfl, Nat.le_refl _, Nat.zero_le _, by decide, by decide⟩ ⟨trivial, rfl, Nat.le_refl _, Nat.zero_le _, by decide, by decide⟩ hS
  have e : Ty.lessT 0 .nil 1 .nil = true := by decide
  rw [e] at q
  exact q
set_option maxHeartbeats 8000000 in
set_option maxRecDepth 100000 in
theorem law_OrderLess (k : Int) (kids : Fo) (A : Option Addr) (n c : Nat) (k' : Int) (kids' : Fo) (A' : Option Addr) (n' c' : Nat) (w : World) (hIs : Ty.Is w k kids A n c) (hIs' : Ty.Is w k' kids' A' n' c') (hS : Shapes w) :
    Calls Tryd.prog 3 #[.agg #[.int .i8 k, .slice A n c], .agg #[.int .i8 k', .slice A' n' c']] w fun e w' => e = .returned (.bool true) ∧ Below w.heap.size w w' := by
  obtain ⟨hB0, hR0, hR1⟩ := two_boxes w k A n c k' A' n' c'
  generalize hw1 : (w.alloc (.cells #[.int .i8 k, .slice A n c] 25)).alloc (.cells #[.int .i8 k', .slice A' n' c'] 25) = w1 at *
  have HW1 := Lib.hid hw1
  have HB1 := Lib.hid hB0
  have HX1 := Lib.hid hR0
  have HY1 := Lib.hid hR1
  have D1 := Lib.hid (fun (u : World) (hE : Below w1.heap.size w1 u) => oless_any k kids A n c k' kids' A' n' c' u (hIs.below (hB0.trans (hE.mono hB0.size))) (hIs'.below (hB0.trans (hE.mono hB0.size))) (hS.below (hB0.trans (hE.mono hB0.size))))
  have D2 := Lib.hid (fun (u : World) (hE : Below w1.heap.size w1 u) => qless_any k kids A n c k' kids' A' n' c' u (hIs.below (hB0.trans (hE.mono hB0.size))) (hIs'.below (hB0.trans (hE.mono hB0.size))))
  have D3 := Lib.hid (fun (u : World) (hE : Below w1.heap.size w1 u) => less_open_int u (hS.below (hB0.trans (hE.mono hB0.size))))
  generalize Ty.lessT k kids k' kids' = R at *
  have hRR : (R == R) = true := by simp
  clear hB0 hR0 hR1 hIs hIs' hS hw1
  go_enter Tryd.func3, Tryd.ntmps3
  go_wp2_with fail
  rw [HW1.out]
  obtain ⟨x0, x1, _, _, hxl⟩ := own2 HX1.out
  obtain ⟨y0, y1, _, _, hyl⟩ := own2 HY1.out
  have X0 := later_cell x0
  have X1 := later_cell x1
  have Y0 := later_cell y0
  have Y1 := later_cell y1
  clear x0 x1 y0 y1 hxl hyl
  refine wp_region_low (by kernel_rfl) (by kernel_rfl) ?_
  repeat
    first
      | go_big_quiet_skip
      | (go_big_quiet_want
         go_big_quiet_op
         first
           | go_big_quiet_on
           | (refine ⟨_, fun _ => rfl, ?_⟩
              go_big_quiet_on)
           | (apply Exists.intro
              refine ⟨fun h => ?_, ?_⟩
              · first
                  | (go_at_call 6; with_reducible exact call_low h (D1.out h.u h.low))
                  | (go_at_call 7; with_reducible exact call_low h (D2.out h.u h.low))
                  | (go_at_call 6; with_reducible exact call_low h (D3.out h.u h.low))
              go_big_quiet_on))
  refine wpQuiet_nil ?_
  rintro w9 ⟨⟨_, E⟩, rfl⟩
  go_wp2_with fail
  go_ret
  exact ⟨rfl, HB1.out.trans (E.mono HB1.out.size)⟩
end Go.Proofs.YtocopanencbmeaaDoor
