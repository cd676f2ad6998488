/-
  P7.2: any two types: where they meet. The law's walk.
-/
import Derived.Test.YtfkbdpehdabepaaDoorOr8
namespace Go.Proofs.YtfkbdpehdabepaaDoor
open Go.RowKit

set_option maxHeartbeats 2000000 in
set_option maxRecDepth 100000 in
theorem met_any (w : World) (hS : Shapes w) : Calls Tryd.prog 18 #[] w fun e w' => e = .returned (.bool true) ∧ Below w.heap.size w w' := by
  have q := oMeet_any 0 .nil none 0 0 2 .nil none 0 0 w ⟨trivial, rfl, Nat.le_refl _, Nat.zero_le _, by decide, by decide⟩ ⟨trivial, rfl, Nat.le_refl _, Nat.zero_le _, by decide, by decide⟩ hS
  unfold MeetTells at q
  rw [show Ty.agreeT 0 .nil 2 .nil = true by decide] at q
  have HQ := Lib.hid (show Calls Tryd.prog 15 #[.agg #[.int .i8 0, .slice none 0 0], .agg #[.int .i8 2, .slice none 0 0]] w fun e w' => ∃ G m c, e = .returned (.tuple #[.agg #[.int .i8 2, .slice G m c], .bool true]) ∧ Ty.Is w' 2 .nil G m c ∧ Below w.heap.size w w' from q)
  clear q
  go_enter Tryd.func18, Tryd.ntmps18
  go_wp2_with fail
  refine HQ.out.mono ?_
  rintro e w2 ⟨G, m, c, rfl, -, hb⟩
  go_wp2_with fail
  go_ret
  exact ⟨rfl, hb.alloc hb.size _⟩

set_option maxHeartbeats 4000000 in
set_option maxRecDepth 100000 in
theorem law_OrderMeet (k : Int) (kids : Fo) (A : Option Addr) (n c : Nat) (k' : Int) (kids' : Fo) (A' : Option Addr) (n' c' : Nat) (w : World) (hIs : Ty.Is w k kids A n c) (hIs' : Ty.Is w k' kids' A' n' c') (hS : Shapes w) :
    Calls Tryd.prog 5 #[.agg #[.int .i8 k, .slice A n c], .agg #[.int .i8 k', .slice A' n' c']] w fun e w' => e = .returned (.bool true) ∧ Below w.heap.size w w' := by
  obtain ⟨hB0, hR0, hR1⟩ := two_boxes w k A n c k' A' n' c'
  generalize hw1 : (w.alloc (.cells #[.int .i8 k, .slice A n c] 25)).alloc (.cells #[.int .i8 k', .slice A' n' c'] 25) = w1 at *
  have HW1 := Lib.hid hw1
  have HB1 := Lib.hid hB0
  have HX1 := Lib.hid hR0
  have HY1 := Lib.hid hR1
  have CM := Lib.hid (fun (W : World) (hb : Below w.heap.size w W) => oMeet_any k kids A n c k' kids' A' n' c' W (hIs.below hb) (hIs'.below hb) (hS.below hb))
  have CQ := Lib.hid (fun (W : World) (hb : Below w.heap.size w W) => qMeet_any k kids A n c k' kids' A' n' c' W (hIs.below hb) (hIs'.below hb))
  have CW := Lib.hid (fun (W : World) (hb : Below w.heap.size w W) => met_any W (hS.below hb))
  unfold MeetTells at CM CQ
  generalize (if Ty.agreeT k kids k' kids' = true then Ty.mK k k' else 0) = MK at *
  generalize (if Ty.agreeT k kids k' kids' = true then Ty.mT k kids k' kids' else .nil) = MT at *
  generalize Ty.agreeT k kids k' kids' = R at *
  have hRR : (R == R) = true := by simp
  clear hB0 hR0 hR1 hIs hIs' hS hw1
  obtain ⟨x0, x1, _, _, hxl⟩ := own2 HX1.out
  obtain ⟨y0, y1, _, _, hyl⟩ := own2 HY1.out
  go_enter Tryd.func5, Tryd.ntmps5
  go_wp2_with fail
  rw [HW1.out]
  go_wp2_with fail
  refine (CM.out _ HB1.out).mono ?_
  rintro e w2 ⟨G1, m1, c1, rfl, hi1, hb⟩
  have hb3 : Below w2.heap.size w2 (w2.alloc (.cells #[.int .i8 MK, .slice G1 m1 c1] 25)) := (Below.refl _ _).alloc (Nat.le_refl _) _
  have hb4 := hb.trans (hb3.mono hb.size)
  have HB3 := Lib.hid (HB1.out.trans (hb4.mono HB1.out.size))
  have HX3 := Lib.hid (heap_below hb4 (heap_lt HX1.out) HX1.out)
  have HY3 := Lib.hid (heap_below hb4 (heap_lt HY1.out) HY1.out)
  have HP3 := Lib.hid (heap_new w2 (.cells #[.int .i8 MK, .slice G1 m1 c1] 25))
  have HJ3 := Lib.hid (hi1.below hb3)
  clear hb hb3 hb4 hi1 x0 x1 hxl y0 y1 hyl
  go_upto_region 2 with fail
  generalize w2.alloc (.cells #[.int .i8 MK, .slice G1 m1 c1] 25) = w3 at *
  obtain ⟨x0, x1, _, _, hxl⟩ := own2 HX3.out
  obtain ⟨y0, y1, _, _, hyl⟩ := own2 HY3.out
  go_wp2_with fail
  refine (CQ.out _ HB3.out).mono ?_
  rintro e w4 ⟨G2, m2, c2, rfl, hi2, hb⟩
  have hb3 : Below w4.heap.size w4 (w4.alloc (.cells #[.int .i8 MK, .slice G2 m2 c2] 25)) := (Below.refl _ _).alloc (Nat.le_refl _) _
  have hb4 := hb.trans (hb3.mono hb.size)
  have HB5 := Lib.hid (HB3.out.trans (hb4.mono HB3.out.size))
  have HP5 := Lib.hid (heap_below hb4 (heap_lt HP3.out) HP3.out)
  have HQ5 := Lib.hid (heap_new w4 (.cells #[.int .i8 MK, .slice G2 m2 c2] 25))
  have HJ5 := Lib.hid (HJ3.out.below hb4)
  have HL5 := Lib.hid (hi2.below hb3)
  clear hb hb3 hb4 hi2 x0 x1 hxl y0 y1 hyl
  go_upto_region 3 with fail
  generalize w4.alloc (.cells #[.int .i8 MK, .slice G2 m2 c2] 25) = w5 at *
  have CK := Lib.hid (kind_any (Ty.nodes MT + 1) MK MT G1 m1 c1 MK MT G2 m2 c2 w5 (Nat.lt_succ_self _) HJ5.out HL5.out)
  rw [show Ty.eqT MK MT MK MT = true by unfold Ty.eqT; simp [Ty.eqF_refl]] at CK
  obtain ⟨x0, x1, _, _, hxl⟩ := own2 HP5.out
  obtain ⟨y0, y1, _, _, hyl⟩ := own2 HQ5.out
  go_wp2_with fail
  refine CK.out.mono ?_
  rintro e w6 ⟨rfl, hb⟩
  have HB6 := Lib.hid (HB5.out.trans (hb.mono HB5.out.size))
  clear hb x0 x1 hxl y0 y1 hyl
  go_wp2_with fail
  refine (CW.out _ HB6.out).mono ?_
  rintro e w7 ⟨rfl, hb⟩
  go_wp2_with fail
  go_ret
  exact ⟨rfl, HB6.out.trans (hb.mono HB6.out.size)⟩
end Go.Proofs.YtfkbdpehdabepaaDoor
