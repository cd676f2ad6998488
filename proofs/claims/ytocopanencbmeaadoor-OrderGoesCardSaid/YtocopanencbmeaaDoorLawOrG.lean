/-
  P7.4: an order, with ? below all. The law's walk.
-/
import Derived.Test.YtocopanencbmeaaDoorLawOrL
namespace Go.Proofs.YtocopanencbmeaaDoor
open Go.RowKit

theorem three_boxes (w : World) (o1 o2 o3 : Obj) : (((w.alloc o1).alloc o2).alloc o3).heap[w.heap.size]? = some o1 ∧ (((w.alloc o1).alloc o2).alloc o3).heap[w.heap.size + 1]? = some o2 ∧ (((w.alloc o1).alloc o2).alloc o3).heap[w.heap.size + 1 + 1]? = some o3 ∧ (((w.alloc o1).alloc o2).alloc o3).heap.size = w.heap.size + 3 := by
  obtain ⟨h1, h2, h3⟩ := two_new w o1 o2
  refine ⟨heap_old h1 _, heap_old h2 _, ?_, by simp⟩
  have := heap_new ((w.alloc o1).alloc o2) o3
  rwa [h3] at this
set_option maxHeartbeats 8000000 in
set_option maxRecDepth 100000 in
theorem law_OrderGoes (k : Int) (kids : Fo) (A : Option Addr) (n c : Nat) (k' : Int) (kids' : Fo) (A' : Option Addr) (n' c' : Nat) (k'' : Int) (kids'' : Fo) (A'' : Option Addr) (n'' c'' : Nat) (w : World) (hIs : Ty.Is w k kids A n c) (hIs' : Ty.Is w k' kids' A' n' c') (hIs'' : Ty.Is w k'' kids'' A'' n'' c'') (hS : Shapes w) :
    Calls Tryd.prog 5 #[.agg #[.int .i8 k, .slice A n c], .agg #[.int .i8 k', .slice A' n' c'], .agg #[.int .i8 k'', .slice A'' n'' c'']] w fun e w' => e = .returned (.bool true) ∧ Below w.heap.size w w' := by
  have CC := Lib.hid (fun (W : World) (hb : Below w.heap.size w W) => check_any k kids A n c W (hIs.below hb) (hS.below hb))
  have CAA := Lib.hid (fun (W : World) (hb : Below w.heap.size w W) => oless_any k kids A n c k kids A n c W (hIs.below hb) (hIs.below hb) (hS.below hb))
  have CZA := Lib.hid (fun (W : World) (hb : Below w.heap.size w W) => oless_any 0 .nil none 0 0 k kids A n c W ⟨trivial, rfl, Nat.le_refl _, Nat.zero_le _, by decide, by decide⟩ (hIs.below hb) (hS.below hb))
  have CAB := Lib.hid (fun (W : World) (hb : Below w.heap.size w W) => oless_any k kids A n c k' kids' A' n' c' W (hIs.below hb) (hIs'.below hb) (hS.below hb))
  have CBA := Lib.hid (fun (W : World) (hb : Below w.heap.size w W) => oless_any k' kids' A' n' c' k kids A n c W (hIs'.below hb) (hIs.below hb) (hS.below hb))
  have CBC := Lib.hid (fun (W : World) (hb : Below w.heap.size w W) => oless_any k' kids' A' n' c' k'' kids'' A'' n'' c'' W (hIs'.below hb) (hIs''.below hb) (hS.below hb))
  have CAC := Lib.hid (fun (W : World) (hb : Below w.heap.size w W) => oless_any k kids A n c k'' kids'' A'' n'' c'' W (hIs.below hb) (hIs''.below hb) (hS.below hb))
  have CSS := Lib.hid (fun (W : World) (hb : Below w.heap.size w W) => same_any k kids A n c k' kids' A' n' c' W (hIs.below hb) (hIs'.below hb) (hS.below hb))
  rw [Ty.less_self] at CAA
  rw [Ty.less_zero] at CZA
  have HRS := Lib.hid (Ty.less_both (k := k) (kids := kids) (k' := k') (kids' := kids'))
  have HTR := Lib.hid (Ty.less_trans (k := k) (kids := kids) (k' := k') (kids' := kids') (k'' := k'') (kids'' := kids''))
  have hck : (((Ty.chk k kids : Nat) : Int) == 0) = (Ty.chk k kids == 0) := by rw [Bool.eq_iff_iff]; simp
  obtain ⟨hA0, hA1, hA2, hsz⟩ := three_boxes w (.cells #[.int .i8 k, .slice A n c] 25) (.cells #[.int .i8 k', .slice A' n' c'] 25) (.cells #[.int .i8 k'', .slice A'' n'' c''] 25)
  have hB1 : Below w.heap.size w (((w.alloc (.cells #[.int .i8 k, .slice A n c] 25)).alloc (.cells #[.int .i8 k', .slice A' n' c'] 25)).alloc (.cells #[.int .i8 k'', .slice A'' n'' c''] 25)) := (((Below.refl _ _).alloc (Nat.le_refl _) _).alloc (by simp) _).alloc (by simp; omega) _
  generalize hw1 : ((w.alloc (.cells #[.int .i8 k, .slice A n c] 25)).alloc (.cells #[.int .i8 k', .slice A' n' c'] 25)).alloc (.cells #[.int .i8 k'', .slice A'' n'' c''] 25) = w1 at *
  have HW1 := Lib.hid hw1
  have HB1 := Lib.hid hB1
  have HX1 := Lib.hid hA0
  have HY1 := Lib.hid hA1
  have HZ1 := Lib.hid hA2
  generalize (Ty.chk k kids == 0) = OK at *
  generalize Ty.lessT k kids k' kids' = R at *
  generalize Ty.lessT k' kids' k kids = RB at *
  generalize Ty.lessT k' kids' k'' kids'' = U at *
  generalize Ty.lessT k kids k'' kids'' = V at *
  generalize Ty.sameT k kids k' kids' = S at *
  have HCK := Lib.hid hck
  generalize ((Ty.chk k kids : Nat) : Int) = C at *
  have hOO : (OK != OK) = false := by simp
  clear hIs hIs' hIs'' hS hw1 hA0 hA1 hA2 hsz hB1 hck
  obtain ⟨x0, x1, _, _, hxl⟩ := own2 HX1.out
  go_enter Tryd.func5, Tryd.ntmps5
  go_wp2_with fail
  rw [HW1.out]
  go_wp2_with fail
  refine (CC.out _ HB1.out).mono ?_
  rintro e w2 ⟨rfl, hb⟩
  have hck := HCK.out
  have HB2 := Lib.hid (HB1.out.trans (hb.mono HB1.out.size))
  have HX2 := Lib.hid (heap_below hb (heap_lt HX1.out) HX1.out)
  have HY2 := Lib.hid (heap_below hb (heap_lt HY1.out) HY1.out)
  have HZ2 := Lib.hid (heap_below hb (heap_lt HZ1.out) HZ1.out)
  clear hb x0 x1 hxl
  obtain ⟨x0, x1, _, _, hxl⟩ := own2 HX2.out
  go_wp2_with fail
  refine (CAA.out _ HB2.out).mono ?_
  rintro e w3 ⟨rfl, hb⟩
  have HB3 := Lib.hid (HB2.out.trans (hb.mono HB2.out.size))
  have HX3 := Lib.hid (heap_below hb (heap_lt HX2.out) HX2.out)
  have HY3 := Lib.hid (heap_below hb (heap_lt HY2.out) HY2.out)
  have HZ3 := Lib.hid (heap_below hb (heap_lt HZ2.out) HZ2.out)
  clear hb x0 x1 hxl
  obtain ⟨x0, x1, _, _, hxl⟩ := own2 HX3.out
  go_wp2_with fail
  refine (CZA.out _ HB3.out).mono ?_
  rintro e w4 ⟨rfl, hb⟩
  have HB4 := Lib.hid (HB3.out.trans (hb.mono HB3.out.size))
  have HX4 := Lib.hid (heap_below hb (heap_lt HX3.out) HX3.out)
  have HY4 := Lib.hid (heap_below hb (heap_lt HY3.out) HY3.out)
  have HZ4 := Lib.hid (heap_below hb (heap_lt HZ3.out) HZ3.out)
  clear hb x0 x1 hxl
  go_wp2_with fail
  have D1 := Lib.hid (fun (u : World) (hE : Below w4.heap.size w4 u) => CAB.out u (HB4.out.trans (hE.mono HB4.out.size)))
  have D2 := Lib.hid (fun (u : World) (hE : Below w4.heap.size w4 u) => CBA.out u (HB4.out.trans (hE.mono HB4.out.size)))
  have D3 := Lib.hid (fun (u : World) (hE : Below w4.heap.size w4 u) => CSS.out u (HB4.out.trans (hE.mono HB4.out.size)))
  cases R
  · clear HRS HTR D2 D3
    obtain ⟨x0, x1, _, _, hxl⟩ := own2 HX4.out
    obtain ⟨y0, y1, _, _, hyl⟩ := own2 HY4.out
    have X0 := later_cell x0
    have X1 := later_cell x1
    have Y0 := later_cell y0
    have Y1 := later_cell y1
    clear x0 x1 y0 y1 hxl hyl
    refine wp_region_low (by kernel_rfl) (by kernel_rfl) ?_
    repeat
      first
        | go_big_quiet_skip
        | (go_big_quiet_want
           go_big_quiet_op
           first
             | go_big_quiet_on
             | (refine ⟨_, fun _ => rfl, ?_⟩
                go_big_quiet_on)
             | (apply Exists.intro
                refine ⟨fun h => ?_, ?_⟩
                · first
                    | (go_at_call 6; with_reducible exact call_low h (D1.out h.u h.low))
                go_big_quiet_on))
    refine wpQuiet_nil ?_
    rintro w5 ⟨⟨_, E5⟩, rfl⟩
    have HB5 := Lib.hid (HB4.out.trans (E5.mono HB4.out.size))
    have HX5 := Lib.hid (heap_below E5 (heap_lt HX4.out) HX4.out)
    have HY5 := Lib.hid (heap_below E5 (heap_lt HY4.out) HY4.out)
    have HZ5 := Lib.hid (heap_below E5 (heap_lt HZ4.out) HZ4.out)
    clear E5 X0 X1 Y0 Y1 D1
    obtain ⟨x0, x1, _, _, hxl⟩ := own2 HX5.out
    obtain ⟨y0, y1, _, _, hyl⟩ := own2 HY5.out
    go_wp2_with fail
    refine (CAB.out _ HB5.out).mono ?_
    rintro e w6 ⟨rfl, hb⟩
    have HB6 := Lib.hid (HB5.out.trans (hb.mono HB5.out.size))
    have HX6 := Lib.hid (heap_below hb (heap_lt HX5.out) HX5.out)
    have HY6 := Lib.hid (heap_below hb (heap_lt HY5.out) HY5.out)
    have HZ6 := Lib.hid (heap_below hb (heap_lt HZ5.out) HZ5.out)
    clear hb x0 x1 hxl y0 y1 hyl
    go_wp2_with fail
    go_ret
    exact ⟨rfl, HB6.out⟩
  · have hrs : RB = S := HRS.out (by first | rfl | trivial)
    subst hrs
    have hSS : (RB != RB) = false := by simp
    clear HRS
    obtain ⟨x0, x1, _, _, hxl⟩ := own2 HX4.out
    obtain ⟨y0, y1, _, _, hyl⟩ := own2 HY4.out
    have X0 := later_cell x0
    have X1 := later_cell x1
    have Y0 := later_cell y0
    have Y1 := later_cell y1
    clear x0 x1 y0 y1 hxl hyl
    refine wp_region_low (by kernel_rfl) (by kernel_rfl) ?_
    repeat
      first
        | go_big_quiet_skip
        | (go_big_quiet_want
           go_big_quiet_op
           first
             | go_big_quiet_on
             | (refine ⟨_, fun _ => rfl, ?_⟩
                go_big_quiet_on)
             | (apply Exists.intro
                refine ⟨fun h => ?_, ?_⟩
                · first
                    | (go_at_call 6; with_reducible exact call_low h (D1.out h.u h.low))
                    | (go_at_call 6; with_reducible exact call_low h (D2.out h.u h.low))
                    | (go_at_call 13; with_reducible exact call_low h (D3.out h.u h.low))
                go_big_quiet_on))
    refine wpQuiet_nil ?_
    rintro w5 ⟨⟨_, E5⟩, rfl⟩
    have HB5 := Lib.hid (HB4.out.trans (E5.mono HB4.out.size))
    have HX5 := Lib.hid (heap_below E5 (heap_lt HX4.out) HX4.out)
    have HY5 := Lib.hid (heap_below E5 (heap_lt HY4.out) HY4.out)
    have HZ5 := Lib.hid (heap_below E5 (heap_lt HZ4.out) HZ4.out)
    clear E5 X0 X1 Y0 Y1 D1 D2 D3
    obtain ⟨x0, x1, _, _, hxl⟩ := own2 HX5.out
    obtain ⟨y0, y1, _, _, hyl⟩ := own2 HY5.out
    go_wp2_with fail
    refine (CAB.out _ HB5.out).mono ?_
    rintro e w6 ⟨rfl, hb⟩
    have HB6 := Lib.hid (HB5.out.trans (hb.mono HB5.out.size))
    have HX6 := Lib.hid (heap_below hb (heap_lt HX5.out) HX5.out)
    have HY6 := Lib.hid (heap_below hb (heap_lt HY5.out) HY5.out)
    have HZ6 := Lib.hid (heap_below hb (heap_lt HZ5.out) HZ5.out)
    clear hb x0 x1 hxl y0 y1 hyl
    cases U
    · obtain ⟨y0, y1, _, _, hyl⟩ := own2 HY6.out
      obtain ⟨z0, z1, _, _, hzl⟩ := own2 HZ6.out
      go_wp2_with fail
      refine (CBC.out _ HB6.out).mono ?_
      rintro e w7 ⟨rfl, hb⟩
      have HB7 := Lib.hid (HB6.out.trans (hb.mono HB6.out.size))
      have HX7 := Lib.hid (heap_below hb (heap_lt HX6.out) HX6.out)
      have HY7 := Lib.hid (heap_below hb (heap_lt HY6.out) HY6.out)
      have HZ7 := Lib.hid (heap_below hb (heap_lt HZ6.out) HZ6.out)
      clear hb y0 y1 hyl z0 z1 hzl
      go_wp2_with fail
      go_ret
      exact ⟨rfl, HB7.out⟩
    · have hv : V = true := HTR.out (by first | rfl | trivial) (by first | rfl | trivial)
      subst hv
      obtain ⟨y0, y1, _, _, hyl⟩ := own2 HY6.out
      obtain ⟨z0, z1, _, _, hzl⟩ := own2 HZ6.out
      go_wp2_with fail
      refine (CBC.out _ HB6.out).mono ?_
      rintro e w7 ⟨rfl, hb⟩
      have HB7 := Lib.hid (HB6.out.trans (hb.mono HB6.out.size))
      have HX7 := Lib.hid (heap_below hb (heap_lt HX6.out) HX6.out)
      have HY7 := Lib.hid (heap_below hb (heap_lt HY6.out) HY6.out)
      have HZ7 := Lib.hid (heap_below hb (heap_lt HZ6.out) HZ6.out)
      clear hb y0 y1 hyl z0 z1 hzl
      obtain ⟨x0, x1, _, _, hxl⟩ := own2 HX7.out
      obtain ⟨z0, z1, _, _, hzl⟩ := own2 HZ7.out
      go_wp2_with fail
      refine (CAC.out _ HB7.out).mono ?_
      rintro e w8 ⟨rfl, hb⟩
      have HB8 := Lib.hid (HB7.out.trans (hb.mono HB7.out.size))
      have HX8 := Lib.hid (heap_below hb (heap_lt HX7.out) HX7.out)
      have HY8 := Lib.hid (heap_below hb (heap_lt HY7.out) HY7.out)
      have HZ8 := Lib.hid (heap_below hb (heap_lt HZ7.out) HZ7.out)
      clear hb x0 x1 hxl z0 z1 hzl
      go_wp2_with fail
      go_ret
      exact ⟨rfl, HB8.out⟩
end Go.Proofs.YtocopanencbmeaaDoor
