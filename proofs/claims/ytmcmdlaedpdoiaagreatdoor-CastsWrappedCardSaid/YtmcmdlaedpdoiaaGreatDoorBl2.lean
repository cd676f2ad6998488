/-
  tell: from a known type to ?, from ? to a known type.
-/
import Derived.Test.YtmcmdlaedpdoiaaGreatDoorM12
import Derived.Deep.DeepCutAuto
namespace Go.Proofs.YtmcmdlaedpdoiaaGreatDoor
open Go.RowKit

set_option maxHeartbeats 4000000 in
set_option maxRecDepth 100000 in
theorem tell_leave (fl fe fa fp : FuncId) (hcf : CF fl) (k : Int) (kids : Fo) (A : Option Addr) (n c : Nat) (A' : Option Addr) (n' c' : Nat) (w : World) (r : Bool)
    (hIs : Ty.Is w k kids A n c) (hS : Shapes w) (h0 : Ty.chk k kids = 0) (hk : k ≠ 0) (hL : RC fl k kids k (if 3 ≤ k then Ty.two 0 .nil 0 .nil else .nil) r) :
    Calls Tryz.prog 93 #[.agg #[.int .i8 k, .slice A n c, .int .i8 0, .slice A' n' c'], .agg #[.func (Fn.func fl) #[] #[], .func (Fn.func fe) #[] #[], .func (Fn.func fa) #[] #[], .func (Fn.func fp) #[] #[]]] w fun e w' => e = .returned (.bool r) ∧ Below w.heap.size w w' := by
  obtain ⟨hR0, hR1, -⟩ := two_new w (.cells #[.int .i8 k, .slice A n c, .int .i8 0, .slice A' n' c'] 61) (.cells #[.func (Fn.func fl) #[] #[], .func (Fn.func fe) #[] #[], .func (Fn.func fa) #[] #[], .func (Fn.func fp) #[] #[]] 90)
  have hB := tell_boxes w (.cells #[.int .i8 k, .slice A n c, .int .i8 0, .slice A' n' c'] 61) (.cells #[.func (Fn.func fl) #[] #[], .func (Fn.func fe) #[] #[], .func (Fn.func fa) #[] #[], .func (Fn.func fp) #[] #[]] 90)
  generalize hw1 : (w.alloc (.cells #[.int .i8 k, .slice A n c, .int .i8 0, .slice A' n' c'] 61)).alloc (.cells #[.func (Fn.func fl) #[] #[], .func (Fn.func fe) #[] #[], .func (Fn.func fa) #[] #[], .func (Fn.func fp) #[] #[]] 90) = w1 at *
  have HW1 := Lib.hid hw1
  have HX1 := Lib.hid hR0
  have HY1 := Lib.hid hR1
  obtain ⟨b0, b1, b2, b3, -, -, -, -, hb0⟩ := own4 hR0
  clear hw1 hR0 hR1
  go_enter Tryz.func93, Tryz.ntmps93
  go_wp2_with fail
  rw [HW1.out]
  go_quiet (fail)
  have HB2 := Lib.hid (below_drewN hB nq)
  have hD := below_drewN (Below.refl w1.heap.size w1) nq
  have HX2 := Lib.hid (heap_below hD (heap_lt HX1.out) HX1.out)
  have HY2 := Lib.hid (heap_below hD (heap_lt HY1.out) HY1.out)
  clear hB hD b0 b1 b2 b3 hb0
  generalize w1.drewN nq = w2 at *
  have e1 : (k == 0) = false := by simpa using hk
  have g1 : Ty.gK k kids = k := by unfold Ty.gK; rw [if_pos h0]
  have g2 : Ty.gOk k kids = true := by unfold Ty.gOk; simp [h0, hk]
  have g3 : Ty.gKids k kids = if 3 ≤ k then Ty.two 0 .nil 0 .nil else .nil := by unfold Ty.gKids; simp [h0]
  have CG := Lib.hid (ground_any k kids A n c w2 (hIs.below HB2.out) (hS.below HB2.out))
  have HI := Lib.hid hIs
  have HS := Lib.hid hS
  have HL := Lib.hid hL
  have HG := Lib.hid (And.intro g1 (And.intro g2 g3))
  have hcf' := hcf
  unfold CF at hcf'
  clear hIs hS hL h0 hk g1 g2 g3 hcf
  obtain ⟨b0, b1, b2, b3, -, -, -, -, hb0⟩ := own4 HX2.out
  go_wp2_with fail
  refine CG.out.mono ?_
  rintro e w3 ⟨G, m, cg, rfl, hI, -, hb⟩
  obtain ⟨g1, g2, g3⟩ := HG.out
  rw [g1, g3] at hI
  rw [g1, g2]
  have hb4 : Below w3.heap.size w3 (w3.alloc (.cells #[.int .i8 k, .slice G m cg] 25)) := (Below.refl _ _).alloc (Nat.le_refl _) _
  have hX3 := heap_below hb (heap_lt HX2.out) HX2.out
  have hY3 := heap_below hb (heap_lt HY2.out) HY2.out
  have HX4 := Lib.hid (heap_below hb4 (heap_lt hX3) hX3)
  have HY4 := Lib.hid (heap_below hb4 (heap_lt hY3) hY3)
  have HZ4 := Lib.hid (heap_new w3 (.cells #[.int .i8 k, .slice G m cg] 25))
  have HB4 := Lib.hid (HB2.out.trans ((hb.trans (hb4.mono hb.size)).mono HB2.out.size))
  have CL := Lib.hid (HL.out A n c G m cg _ (HI.out.below HB4.out) (hI.below hb4) (HS.out.below HB4.out))
  clear hb hb4 hX3 hY3 hI b0 b1 b2 b3 hb0 CG HX2 HY2 HB2 HG g1 g2 g3
  go_upto_region 6 with fail
  generalize w3.alloc (.cells #[.int .i8 k, .slice G m cg] 25) = w4 at *
  obtain ⟨b0, b1, b2, b3, -, -, -, -, hb0⟩ := own4 HX4.out
  obtain ⟨c0, c1, c2, c3, -, -, -, -, hc0⟩ := own4 HY4.out
  obtain ⟨z0, z1, _, _, hzl⟩ := own2 HZ4.out
  go_wp2_with fail
  refine CL.out.mono ?_
  rintro e w5 ⟨rfl, hb⟩
  go_wp2_with fail
  go_ret
  exact ⟨rfl, HB4.out.trans (hb.mono HB4.out.size)⟩

set_option maxHeartbeats 4000000 in
set_option maxRecDepth 100000 in
theorem tell_enter (fl fe fa fp : FuncId) (hcf : CF fe) (A : Option Addr) (n c : Nat) (k' : Int) (kids' : Fo) (A' : Option Addr) (n' c' : Nat) (w : World) (r : Bool)
    (hIs : Ty.Is w 0 .nil A n c) (hIs' : Ty.Is w k' kids' A' n' c') (hS : Shapes w) (hk : k' ≠ 0) (hE : RC fe 0 .nil k' kids' r) :
    Calls Tryz.prog 93 #[.agg #[.int .i8 0, .slice A n c, .int .i8 k', .slice A' n' c'], .agg #[.func (Fn.func fl) #[] #[], .func (Fn.func fe) #[] #[], .func (Fn.func fa) #[] #[], .func (Fn.func fp) #[] #[]]] w fun e w' => e = .returned (.bool r) ∧ Below w.heap.size w w' := by
  obtain ⟨hR0, hR1, -⟩ := two_new w (.cells #[.int .i8 0, .slice A n c, .int .i8 k', .slice A' n' c'] 61) (.cells #[.func (Fn.func fl) #[] #[], .func (Fn.func fe) #[] #[], .func (Fn.func fa) #[] #[], .func (Fn.func fp) #[] #[]] 90)
  have hB := tell_boxes w (.cells #[.int .i8 0, .slice A n c, .int .i8 k', .slice A' n' c'] 61) (.cells #[.func (Fn.func fl) #[] #[], .func (Fn.func fe) #[] #[], .func (Fn.func fa) #[] #[], .func (Fn.func fp) #[] #[]] 90)
  generalize hw1 : (w.alloc (.cells #[.int .i8 0, .slice A n c, .int .i8 k', .slice A' n' c'] 61)).alloc (.cells #[.func (Fn.func fl) #[] #[], .func (Fn.func fe) #[] #[], .func (Fn.func fa) #[] #[], .func (Fn.func fp) #[] #[]] 90) = w1 at *
  have HW1 := Lib.hid hw1
  have HX1 := Lib.hid hR0
  have HY1 := Lib.hid hR1
  obtain ⟨b0, b1, b2, b3, -, -, -, -, hb0⟩ := own4 hR0
  clear hw1 hR0 hR1
  go_enter Tryz.func93, Tryz.ntmps93
  go_wp2_with fail
  rw [HW1.out]
  go_quiet (fail)
  have HB2 := Lib.hid (below_drewN hB nq)
  have hD := below_drewN (Below.refl w1.heap.size w1) nq
  have HX2 := Lib.hid (heap_below hD (heap_lt HX1.out) HX1.out)
  have HY2 := Lib.hid (heap_below hD (heap_lt HY1.out) HY1.out)
  clear hB hD b0 b1 b2 b3 hb0
  generalize w1.drewN nq = w2 at *
  have e1 : (k' == 0) = false := by simpa using hk
  have CE := Lib.hid (hE A n c A' n' c' w2 (hIs.below HB2.out) (hIs'.below HB2.out) (hS.below HB2.out))
  have hcf' := hcf
  unfold CF at hcf'
  clear hIs hIs' hS hE hk hcf
  obtain ⟨b0, b1, b2, b3, -, -, -, -, hb0⟩ := own4 HX2.out
  obtain ⟨c0, c1, c2, c3, -, -, -, -, hc0⟩ := own4 HY2.out
  go_wp2_with fail
  refine CE.out.mono ?_
  rintro e w5 ⟨rfl, hb⟩
  go_wp2_with fail
  go_ret
  exact ⟨rfl, HB2.out.trans (hb.mono HB2.out.size)⟩
end Go.Proofs.YtmcmdlaedpdoiaaGreatDoor
