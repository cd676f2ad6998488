/-
  P8.4, P8.5: below itself, an order; known types. The law's walk.
-/
import Derived.Test.YtdeomggkhbdkaaaDoorBl6
import Derived.Test.YtdeomggkhbdkaaaDoorLow
namespace Go.Proofs.YtdeomggkhbdkaaaDoor
open Go.RowKit

theorem three_boxes8 (w : World) (o1 o2 o3 : Obj) : (((w.alloc o1).alloc o2).alloc o3).heap[w.heap.size]? = some o1 ∧ (((w.alloc o1).alloc o2).alloc o3).heap[w.heap.size + 1]? = some o2 ∧ (((w.alloc o1).alloc o2).alloc o3).heap[w.heap.size + 1 + 1]? = some o3 ∧ Below w.heap.size w (((w.alloc o1).alloc o2).alloc o3) := by
  obtain ⟨h1, h2, h3⟩ := two_new w o1 o2
  refine ⟨heap_old h1 _, heap_old h2 _, ?_, (((Below.refl _ _).alloc (Nat.le_refl _) _).alloc (by simp) _).alloc (by simp; omega) _⟩
  have := heap_new ((w.alloc o1).alloc o2) o3
  rwa [h3] at this
set_option maxHeartbeats 8000000 in
set_option maxRecDepth 100000 in
theorem law_BelowOrders (k : Int) (kids : Fo) (A : Option Addr) (n c : Nat) (k' : Int) (kids' : Fo) (A' : Option Addr) (n' c' : Nat) (k'' : Int) (kids'' : Fo) (A'' : Option Addr) (n'' c'' : Nat) (w : World) (hIs : Ty.Is w k kids A n c) (hIs' : Ty.Is w k' kids' A' n' c') (hIs'' : Ty.Is w k'' kids'' A'' n'' c'') (hS : Shapes w) :
    Calls Tryd.prog 5 #[.agg #[.int .i8 k, .slice A n c], .agg #[.int .i8 k', .slice A' n' c'], .agg #[.int .i8 k'', .slice A'' n'' c'']] w fun e w' => e = .returned (.bool true) ∧ Below w.heap.size w w' := by
  have CC := Lib.hid (fun (u : World) (hb : Below w.heap.size w u) => check_any k kids A n c u (hIs.below hb) (hS.below hb))
  have CA0 := Lib.hid (fun (u : World) (hb : Below w.heap.size w u) => below0_any k kids A n c k kids A n c u (hIs.below hb) (hIs.below hb) (hS.below hb))
  rw [Ty.bel_self] at CA0
  have CA1 := Lib.hid (fun (u : World) (hb : Below w.heap.size w u) => below1_any k kids A n c k kids A n c u (hIs.below hb) (hIs.below hb) (hS.below hb))
  rw [Ty.bel_self] at CA1
  have CA2 := Lib.hid (fun (u : World) (hb : Below w.heap.size w u) => below2_any k kids A n c k kids A n c u (hIs.below hb) (hIs.below hb) (hS.below hb))
  rw [Ty.bel_self] at CA2
  have CAB := Lib.hid (fun (u : World) (hb : Below w.heap.size w u) => below0_any k kids A n c k' kids' A' n' c' u (hIs.below hb) (hIs'.below hb) (hS.below hb))
  have CBC := Lib.hid (fun (u : World) (hb : Below w.heap.size w u) => below0_any k' kids' A' n' c' k'' kids'' A'' n'' c'' u (hIs'.below hb) (hIs''.below hb) (hS.below hb))
  have CAC := Lib.hid (fun (u : World) (hb : Below w.heap.size w u) => below0_any k kids A n c k'' kids'' A'' n'' c'' u (hIs.below hb) (hIs''.below hb) (hS.below hb))
  have CBA := Lib.hid (fun (u : World) (hb : Below w.heap.size w u) => below0_any k' kids' A' n' c' k kids A n c u (hIs'.below hb) (hIs.below hb) (hS.below hb))
  have CP := Lib.hid (fun (u : World) (hb : Below w.heap.size w u) => below1_any k kids A n c k' kids' A' n' c' u (hIs.below hb) (hIs'.below hb) (hS.below hb))
  have CN := Lib.hid (fun (u : World) (hb : Below w.heap.size w u) => below2_any k kids A n c k' kids' A' n' c' u (hIs.below hb) (hIs'.below hb) (hS.below hb))
  have CSS := Lib.hid (fun (u : World) (hb : Below w.heap.size w u) => same_any k kids A n c k' kids' A' n' c' u (hIs.below hb) (hIs'.below hb) (hS.below hb))
  have CKA := Lib.hid (fun (u : World) (hb : Below w.heap.size w u) => known_fn k kids A n c u (hIs.below hb) (hS.below hb))
  have CKB := Lib.hid (fun (u : World) (hb : Below w.heap.size w u) => known_fn k' kids' A' n' c' u (hIs'.below hb) (hS.below hb))
  have CW := Lib.hid (fun (u : World) (hb : Below w.heap.size w u) => wakes8_any u (hS.below hb))
  have HRS := Lib.hid (Ty.bel_anti (k := k) (kids := kids) (k' := k') (kids' := kids'))
  have HTR := Lib.hid (Ty.bel_trans (k := k) (kids := kids) (k' := k') (kids' := kids') (k'' := k'') (kids'' := kids''))
  have HK0 := Lib.hid (Ty.bel_known 0 (k := k) (kids := kids) (k' := k') (kids' := kids'))
  have HK1 := Lib.hid (Ty.bel_known 1 (k := k) (kids := kids) (k' := k') (kids' := kids'))
  have HK2 := Lib.hid (Ty.bel_known 2 (k := k) (kids := kids) (k' := k') (kids' := kids'))
  have hck : (((Ty.chk k kids : Nat) : Int) == 0) = (Ty.chk k kids == 0) := by rw [Bool.eq_iff_iff]; simp
  obtain ⟨hA0, hA1, hA2, hB1⟩ := three_boxes8 w (.cells #[.int .i8 k, .slice A n c] 25) (.cells #[.int .i8 k', .slice A' n' c'] 25) (.cells #[.int .i8 k'', .slice A'' n'' c''] 25)
  generalize hw1 : ((w.alloc (.cells #[.int .i8 k, .slice A n c] 25)).alloc (.cells #[.int .i8 k', .slice A' n' c'] 25)).alloc (.cells #[.int .i8 k'', .slice A'' n'' c''] 25) = w1 at *
  have HW1 := Lib.hid hw1
  have HB1 := Lib.hid hB1
  have HX1 := Lib.hid hA0
  have HY1 := Lib.hid hA1
  have HZ1 := Lib.hid hA2
  generalize (Ty.chk k kids == 0) = OK at *
  generalize Ty.belowT 0 k kids k' kids' = R at *
  generalize Ty.belowT 0 k' kids' k kids = RB at *
  generalize Ty.belowT 0 k' kids' k'' kids'' = U at *
  generalize Ty.belowT 0 k kids k'' kids'' = V at *
  generalize Ty.belowT 1 k kids k' kids' = RP at *
  generalize Ty.belowT 2 k kids k' kids' = RN at *
  generalize Ty.sameT k kids k' kids' = SA at *
  generalize Ty.knownT k kids = KA at *
  generalize Ty.knownT k' kids' = KB at *
  have HCK := Lib.hid hck
  generalize ((Ty.chk k kids : Nat) : Int) = C at *
  have hOO : (OK != OK) = false := by simp
  have HSS := Lib.hid (show (SA == SA) = true from by simp)
  clear hIs hIs' hIs'' hS hw1 hA0 hA1 hA2 hB1 hck
  have HCUT := Lib.hid (show (R = false) ∨ (R = true ∧ U = false ∧ RB = SA) ∨ (R = true ∧ U = true ∧ V = true ∧ RB = SA) from by
    cases R
    · exact .inl rfl
    · have e := HRS.out rfl
      cases U
      · exact .inr (.inl ⟨rfl, rfl, e⟩)
      · exact .inr (.inr ⟨rfl, rfl, HTR.out rfl rfl, e⟩))
  clear HRS HTR
  obtain ⟨x0, x1, _, _, hxl⟩ := own2 HX1.out
  go_enter Tryd.func5, Tryd.ntmps5
  go_upto_region 1 with fail
  rw [HW1.out]
  go_wp2_with fail
  refine (CC.out _ HB1.out).mono ?_
  rintro e w2 ⟨rfl, hb⟩
  have hck := HCK.out
  have HB2 := Lib.hid (HB1.out.trans (hb.mono HB1.out.size))
  have HX2 := Lib.hid (heap_below hb (heap_lt HX1.out) HX1.out)
  have HY2 := Lib.hid (heap_below hb (heap_lt HY1.out) HY1.out)
  have HZ2 := Lib.hid (heap_below hb (heap_lt HZ1.out) HZ1.out)
  clear hb x0 x1 hxl
  obtain ⟨x0, x1, _, _, hxl⟩ := own2 HX2.out
  go_wp2_with fail
  refine (CA0.out _ HB2.out).mono ?_
  rintro e w3 ⟨rfl, hb⟩
  have HB3 := Lib.hid (HB2.out.trans (hb.mono HB2.out.size))
  have HX3 := Lib.hid (heap_below hb (heap_lt HX2.out) HX2.out)
  have HY3 := Lib.hid (heap_below hb (heap_lt HY2.out) HY2.out)
  have HZ3 := Lib.hid (heap_below hb (heap_lt HZ2.out) HZ2.out)
  clear hb x0 x1 hxl
  obtain ⟨x0, x1, _, _, hxl⟩ := own2 HX3.out
  go_wp2_with fail
  refine (CA1.out _ HB3.out).mono ?_
  rintro e w4 ⟨rfl, hb⟩
  have HB4 := Lib.hid (HB3.out.trans (hb.mono HB3.out.size))
  have HX4 := Lib.hid (heap_below hb (heap_lt HX3.out) HX3.out)
  have HY4 := Lib.hid (heap_below hb (heap_lt HY3.out) HY3.out)
  have HZ4 := Lib.hid (heap_below hb (heap_lt HZ3.out) HZ3.out)
  clear hb x0 x1 hxl
  obtain ⟨x0, x1, _, _, hxl⟩ := own2 HX4.out
  go_wp2_with fail
  refine (CA2.out _ HB4.out).mono ?_
  rintro e w5 ⟨rfl, hb⟩
  have HB5 := Lib.hid (HB4.out.trans (hb.mono HB4.out.size))
  have HX5 := Lib.hid (heap_below hb (heap_lt HX4.out) HX4.out)
  have HY5 := Lib.hid (heap_below hb (heap_lt HY4.out) HY4.out)
  have HZ5 := Lib.hid (heap_below hb (heap_lt HZ4.out) HZ4.out)
  clear hb x0 x1 hxl
  go_wp2_with fail
  rcases HCUT.out with rfl | ⟨rfl, rfl, rfl⟩ | ⟨rfl, rfl, rfl, rfl⟩
  · have G1 := Lib.hid (fun (u : World) (hE : Below w5.heap.size w5 u) => CAB.out u (HB5.out.trans (hE.mono HB5.out.size)))
    have G2 := Lib.hid (fun (u : World) (hE : Below w5.heap.size w5 u) => CBC.out u (HB5.out.trans (hE.mono HB5.out.size)))
    have G3 := Lib.hid (fun (u : World) (hE : Below w5.heap.size w5 u) => CAC.out u (HB5.out.trans (hE.mono HB5.out.size)))
    have G4 := Lib.hid (fun (u : World) (hE : Below w5.heap.size w5 u) => CBA.out u (HB5.out.trans (hE.mono HB5.out.size)))
    have G5 := Lib.hid (fun (u : World) (hE : Below w5.heap.size w5 u) => CSS.out u (HB5.out.trans (hE.mono HB5.out.size)))
    obtain ⟨x0, x1, _, _, hxl⟩ := own2 HX5.out
    have X0 := later_cell x0
    have X1 := later_cell x1
    clear x0 x1 hxl
    obtain ⟨y0, y1, _, _, hyl⟩ := own2 HY5.out
    have Y0 := later_cell y0
    have Y1 := later_cell y1
    clear y0 y1 hyl
    obtain ⟨z0, z1, _, _, hzl⟩ := own2 HZ5.out
    have Z0 := later_cell z0
    have Z1 := later_cell z1
    clear z0 z1 hzl
    refine wp_region_low (by kernel_rfl) (by kernel_rfl) ?_
    repeat
      first
        | go_big_quiet_skip
        | (go_big_quiet_want
           go_big_quiet_op
           first
             | go_big_quiet_on
             | (refine ⟨_, fun _ => rfl, ?_⟩
                go_big_quiet_on)
             | (apply Exists.intro
                refine ⟨fun h => ?_, ?_⟩
                · first
                    | (go_at_call 7; with_reducible exact call_low h (G1.out h.u h.low))
                go_big_quiet_on))
    refine wpQuiet_nil ?_
    rintro w6 ⟨⟨_, E6⟩, rfl⟩
    clear X0 X1 Y0 Y1 Z0 Z1 G1 G2 G3 G4 G5
    have HB6 := Lib.hid (HB5.out.trans (E6.mono HB5.out.size))
    have HX6 := Lib.hid (heap_below E6 (heap_lt HX5.out) HX5.out)
    have HY6 := Lib.hid (heap_below E6 (heap_lt HY5.out) HY5.out)
    have HZ6 := Lib.hid (heap_below E6 (heap_lt HZ5.out) HZ5.out)
    clear E6
    obtain ⟨x0, x1, _, _, hxl⟩ := own2 HX6.out
    go_wp2_with fail
    refine (CKA.out _ HB6.out).mono ?_
    rintro e w7 ⟨rfl, hb⟩
    have HB7 := Lib.hid (HB6.out.trans (hb.mono HB6.out.size))
    have HX7 := Lib.hid (heap_below hb (heap_lt HX6.out) HX6.out)
    have HY7 := Lib.hid (heap_below hb (heap_lt HY6.out) HY6.out)
    have HZ7 := Lib.hid (heap_below hb (heap_lt HZ6.out) HZ6.out)
    clear hb x0 x1 hxl
    cases KA
    · go_wp2_with fail
      refine (CW.out _ HB7.out).mono ?_
      rintro e w8 ⟨rfl, hb⟩
      go_wp2_with fail
      go_ret
      exact ⟨rfl, HB7.out.trans (hb.mono HB7.out.size)⟩
    · obtain ⟨y0, y1, _, _, hyl⟩ := own2 HY7.out
      go_wp2_with fail
      refine (CKB.out _ HB7.out).mono ?_
      rintro e w8 ⟨rfl, hb⟩
      have HB8 := Lib.hid (HB7.out.trans (hb.mono HB7.out.size))
      have HX8 := Lib.hid (heap_below hb (heap_lt HX7.out) HX7.out)
      have HY8 := Lib.hid (heap_below hb (heap_lt HY7.out) HY7.out)
      have HZ8 := Lib.hid (heap_below hb (heap_lt HZ7.out) HZ7.out)
      clear hb y0 y1 hyl
      cases KB
      · go_wp2_with fail
        refine (CW.out _ HB8.out).mono ?_
        rintro e w9 ⟨rfl, hb⟩
        go_wp2_with fail
        go_ret
        exact ⟨rfl, HB8.out.trans (hb.mono HB8.out.size)⟩
      · have k0 := HK0.out (by first | rfl | trivial) (by first | rfl | trivial)
        have k1 := HK1.out (by first | rfl | trivial) (by first | rfl | trivial)
        have k2 := HK2.out (by first | rfl | trivial) (by first | rfl | trivial)
        subst k0 k1 k2
        have hss : (false == false) = true := rfl
        obtain ⟨x0, x1, _, _, hxl⟩ := own2 HX8.out
        obtain ⟨y0, y1, _, _, hyl⟩ := own2 HY8.out
        go_wp2_with fail
        refine (CSS.out _ HB8.out).mono ?_
        rintro e w9 ⟨rfl, hb⟩
        have HB9 := Lib.hid (HB8.out.trans (hb.mono HB8.out.size))
        have HX9 := Lib.hid (heap_below hb (heap_lt HX8.out) HX8.out)
        have HY9 := Lib.hid (heap_below hb (heap_lt HY8.out) HY8.out)
        have HZ9 := Lib.hid (heap_below hb (heap_lt HZ8.out) HZ8.out)
        clear hb x0 x1 hxl y0 y1 hyl
        obtain ⟨x0, x1, _, _, hxl⟩ := own2 HX9.out
        obtain ⟨y0, y1, _, _, hyl⟩ := own2 HY9.out
        go_wp2_with fail
        refine (CAB.out _ HB9.out).mono ?_
        rintro e w10 ⟨rfl, hb⟩
        have HB10 := Lib.hid (HB9.out.trans (hb.mono HB9.out.size))
        have HX10 := Lib.hid (heap_below hb (heap_lt HX9.out) HX9.out)
        have HY10 := Lib.hid (heap_below hb (heap_lt HY9.out) HY9.out)
        have HZ10 := Lib.hid (heap_below hb (heap_lt HZ9.out) HZ9.out)
        clear hb x0 x1 hxl y0 y1 hyl
        obtain ⟨x0, x1, _, _, hxl⟩ := own2 HX10.out
        obtain ⟨y0, y1, _, _, hyl⟩ := own2 HY10.out
        go_wp2_with fail
        refine (CP.out _ HB10.out).mono ?_
        rintro e w11 ⟨rfl, hb⟩
        have HB11 := Lib.hid (HB10.out.trans (hb.mono HB10.out.size))
        have HX11 := Lib.hid (heap_below hb (heap_lt HX10.out) HX10.out)
        have HY11 := Lib.hid (heap_below hb (heap_lt HY10.out) HY10.out)
        have HZ11 := Lib.hid (heap_below hb (heap_lt HZ10.out) HZ10.out)
        clear hb x0 x1 hxl y0 y1 hyl
        obtain ⟨x0, x1, _, _, hxl⟩ := own2 HX11.out
        obtain ⟨y0, y1, _, _, hyl⟩ := own2 HY11.out
        go_wp2_with fail
        refine (CN.out _ HB11.out).mono ?_
        rintro e w12 ⟨rfl, hb⟩
        have HB12 := Lib.hid (HB11.out.trans (hb.mono HB11.out.size))
        have HX12 := Lib.hid (heap_below hb (heap_lt HX11.out) HX11.out)
        have HY12 := Lib.hid (heap_below hb (heap_lt HY11.out) HY11.out)
        have HZ12 := Lib.hid (heap_below hb (heap_lt HZ11.out) HZ11.out)
        clear hb x0 x1 hxl y0 y1 hyl
        go_wp2_with fail
        refine (CW.out _ HB12.out).mono ?_
        rintro e w13 ⟨rfl, hb⟩
        go_wp2_with fail
        go_ret
        exact ⟨rfl, HB12.out.trans (hb.mono HB12.out.size)⟩
  · have G1 := Lib.hid (fun (u : World) (hE : Below w5.heap.size w5 u) => CAB.out u (HB5.out.trans (hE.mono HB5.out.size)))
    have G2 := Lib.hid (fun (u : World) (hE : Below w5.heap.size w5 u) => CBC.out u (HB5.out.trans (hE.mono HB5.out.size)))
    have G3 := Lib.hid (fun (u : World) (hE : Below w5.heap.size w5 u) => CAC.out u (HB5.out.trans (hE.mono HB5.out.size)))
    have G4 := Lib.hid (fun (u : World) (hE : Below w5.heap.size w5 u) => CBA.out u (HB5.out.trans (hE.mono HB5.out.size)))
    have G5 := Lib.hid (fun (u : World) (hE : Below w5.heap.size w5 u) => CSS.out u (HB5.out.trans (hE.mono HB5.out.size)))
    have hsn : (RB != RB) = false := by simp
    obtain ⟨x0, x1, _, _, hxl⟩ := own2 HX5.out
    have X0 := later_cell x0
    have X1 := later_cell x1
    clear x0 x1 hxl
    obtain ⟨y0, y1, _, _, hyl⟩ := own2 HY5.out
    have Y0 := later_cell y0
    have Y1 := later_cell y1
    clear y0 y1 hyl
    obtain ⟨z0, z1, _, _, hzl⟩ := own2 HZ5.out
    have Z0 := later_cell z0
    have Z1 := later_cell z1
    clear z0 z1 hzl
    refine wp_region_low (by kernel_rfl) (by kernel_rfl) ?_
    repeat
      first
        | go_big_quiet_skip
        | (go_big_quiet_want
           go_big_quiet_op
           first
             | go_big_quiet_on
             | (refine ⟨_, fun _ => rfl, ?_⟩
                go_big_quiet_on)
             | (apply Exists.intro
                refine ⟨fun h => ?_, ?_⟩
                · first
                    | (go_at_call 7; with_reducible exact call_low h (G1.out h.u h.low))
                    | (go_at_call 7; with_reducible exact call_low h (G2.out h.u h.low))
                    | (go_at_call 7; with_reducible exact call_low h (G4.out h.u h.low))
                    | (go_at_call 16; with_reducible exact call_low h (G5.out h.u h.low))
                go_big_quiet_on))
    refine wpQuiet_nil ?_
    rintro w6 ⟨⟨_, E6⟩, rfl⟩
    clear X0 X1 Y0 Y1 Z0 Z1 G1 G2 G3 G4 G5
    have HB6 := Lib.hid (HB5.out.trans (E6.mono HB5.out.size))
    have HX6 := Lib.hid (heap_below E6 (heap_lt HX5.out) HX5.out)
    have HY6 := Lib.hid (heap_below E6 (heap_lt HY5.out) HY5.out)
    have HZ6 := Lib.hid (heap_below E6 (heap_lt HZ5.out) HZ5.out)
    clear E6
    obtain ⟨x0, x1, _, _, hxl⟩ := own2 HX6.out
    go_wp2_with fail
    refine (CKA.out _ HB6.out).mono ?_
    rintro e w7 ⟨rfl, hb⟩
    have HB7 := Lib.hid (HB6.out.trans (hb.mono HB6.out.size))
    have HX7 := Lib.hid (heap_below hb (heap_lt HX6.out) HX6.out)
    have HY7 := Lib.hid (heap_below hb (heap_lt HY6.out) HY6.out)
    have HZ7 := Lib.hid (heap_below hb (heap_lt HZ6.out) HZ6.out)
    clear hb x0 x1 hxl
    cases KA
    · go_wp2_with fail
      refine (CW.out _ HB7.out).mono ?_
      rintro e w8 ⟨rfl, hb⟩
      go_wp2_with fail
      go_ret
      exact ⟨rfl, HB7.out.trans (hb.mono HB7.out.size)⟩
    · obtain ⟨y0, y1, _, _, hyl⟩ := own2 HY7.out
      go_wp2_with fail
      refine (CKB.out _ HB7.out).mono ?_
      rintro e w8 ⟨rfl, hb⟩
      have HB8 := Lib.hid (HB7.out.trans (hb.mono HB7.out.size))
      have HX8 := Lib.hid (heap_below hb (heap_lt HX7.out) HX7.out)
      have HY8 := Lib.hid (heap_below hb (heap_lt HY7.out) HY7.out)
      have HZ8 := Lib.hid (heap_below hb (heap_lt HZ7.out) HZ7.out)
      clear hb y0 y1 hyl
      cases KB
      · go_wp2_with fail
        refine (CW.out _ HB8.out).mono ?_
        rintro e w9 ⟨rfl, hb⟩
        go_wp2_with fail
        go_ret
        exact ⟨rfl, HB8.out.trans (hb.mono HB8.out.size)⟩
      · have k0 := HK0.out (by first | rfl | trivial) (by first | rfl | trivial)
        have k1 := HK1.out (by first | rfl | trivial) (by first | rfl | trivial)
        have k2 := HK2.out (by first | rfl | trivial) (by first | rfl | trivial)
        subst k0 k1 k2
        have hss : (true == true) = true := rfl
        obtain ⟨x0, x1, _, _, hxl⟩ := own2 HX8.out
        obtain ⟨y0, y1, _, _, hyl⟩ := own2 HY8.out
        go_wp2_with fail
        refine (CSS.out _ HB8.out).mono ?_
        rintro e w9 ⟨rfl, hb⟩
        have HB9 := Lib.hid (HB8.out.trans (hb.mono HB8.out.size))
        have HX9 := Lib.hid (heap_below hb (heap_lt HX8.out) HX8.out)
        have HY9 := Lib.hid (heap_below hb (heap_lt HY8.out) HY8.out)
        have HZ9 := Lib.hid (heap_below hb (heap_lt HZ8.out) HZ8.out)
        clear hb x0 x1 hxl y0 y1 hyl
        obtain ⟨x0, x1, _, _, hxl⟩ := own2 HX9.out
        obtain ⟨y0, y1, _, _, hyl⟩ := own2 HY9.out
        go_wp2_with fail
        refine (CAB.out _ HB9.out).mono ?_
        rintro e w10 ⟨rfl, hb⟩
        have HB10 := Lib.hid (HB9.out.trans (hb.mono HB9.out.size))
        have HX10 := Lib.hid (heap_below hb (heap_lt HX9.out) HX9.out)
        have HY10 := Lib.hid (heap_below hb (heap_lt HY9.out) HY9.out)
        have HZ10 := Lib.hid (heap_below hb (heap_lt HZ9.out) HZ9.out)
        clear hb x0 x1 hxl y0 y1 hyl
        obtain ⟨x0, x1, _, _, hxl⟩ := own2 HX10.out
        obtain ⟨y0, y1, _, _, hyl⟩ := own2 HY10.out
        go_wp2_with fail
        refine (CP.out _ HB10.out).mono ?_
        rintro e w11 ⟨rfl, hb⟩
        have HB11 := Lib.hid (HB10.out.trans (hb.mono HB10.out.size))
        have HX11 := Lib.hid (heap_below hb (heap_lt HX10.out) HX10.out)
        have HY11 := Lib.hid (heap_below hb (heap_lt HY10.out) HY10.out)
        have HZ11 := Lib.hid (heap_below hb (heap_lt HZ10.out) HZ10.out)
        clear hb x0 x1 hxl y0 y1 hyl
        obtain ⟨x0, x1, _, _, hxl⟩ := own2 HX11.out
        obtain ⟨y0, y1, _, _, hyl⟩ := own2 HY11.out
        go_wp2_with fail
        refine (CN.out _ HB11.out).mono ?_
        rintro e w12 ⟨rfl, hb⟩
        have HB12 := Lib.hid (HB11.out.trans (hb.mono HB11.out.size))
        have HX12 := Lib.hid (heap_below hb (heap_lt HX11.out) HX11.out)
        have HY12 := Lib.hid (heap_below hb (heap_lt HY11.out) HY11.out)
        have HZ12 := Lib.hid (heap_below hb (heap_lt HZ11.out) HZ11.out)
        clear hb x0 x1 hxl y0 y1 hyl
        go_wp2_with fail
        refine (CW.out _ HB12.out).mono ?_
        rintro e w13 ⟨rfl, hb⟩
        go_wp2_with fail
        go_ret
        exact ⟨rfl, HB12.out.trans (hb.mono HB12.out.size)⟩
  · have G1 := Lib.hid (fun (u : World) (hE : Below w5.heap.size w5 u) => CAB.out u (HB5.out.trans (hE.mono HB5.out.size)))
    have G2 := Lib.hid (fun (u : World) (hE : Below w5.heap.size w5 u) => CBC.out u (HB5.out.trans (hE.mono HB5.out.size)))
    have G3 := Lib.hid (fun (u : World) (hE : Below w5.heap.size w5 u) => CAC.out u (HB5.out.trans (hE.mono HB5.out.size)))
    have G4 := Lib.hid (fun (u : World) (hE : Below w5.heap.size w5 u) => CBA.out u (HB5.out.trans (hE.mono HB5.out.size)))
    have G5 := Lib.hid (fun (u : World) (hE : Below w5.heap.size w5 u) => CSS.out u (HB5.out.trans (hE.mono HB5.out.size)))
    have hsn : (RB != RB) = false := by simp
    obtain ⟨x0, x1, _, _, hxl⟩ := own2 HX5.out
    have X0 := later_cell x0
    have X1 := later_cell x1
    clear x0 x1 hxl
    obtain ⟨y0, y1, _, _, hyl⟩ := own2 HY5.out
    have Y0 := later_cell y0
    have Y1 := later_cell y1
    clear y0 y1 hyl
    obtain ⟨z0, z1, _, _, hzl⟩ := own2 HZ5.out
    have Z0 := later_cell z0
    have Z1 := later_cell z1
    clear z0 z1 hzl
    refine wp_region_low (by kernel_rfl) (by kernel_rfl) ?_
    repeat
      first
        | go_big_quiet_skip
        | (go_big_quiet_want
           go_big_quiet_op
           first
             | go_big_quiet_on
             | (refine ⟨_, fun _ => rfl, ?_⟩
                go_big_quiet_on)
             | (apply Exists.intro
                refine ⟨fun h => ?_, ?_⟩
                · first
                    | (go_at_call 7; with_reducible exact call_low h (G1.out h.u h.low))
                    | (go_at_call 7; with_reducible exact call_low h (G2.out h.u h.low))
                    | (go_at_call 7; with_reducible exact call_low h (G3.out h.u h.low))
                    | (go_at_call 7; with_reducible exact call_low h (G4.out h.u h.low))
                    | (go_at_call 16; with_reducible exact call_low h (G5.out h.u h.low))
                go_big_quiet_on))
    refine wpQuiet_nil ?_
    rintro w6 ⟨⟨_, E6⟩, rfl⟩
    clear X0 X1 Y0 Y1 Z0 Z1 G1 G2 G3 G4 G5
    have HB6 := Lib.hid (HB5.out.trans (E6.mono HB5.out.size))
    have HX6 := Lib.hid (heap_below E6 (heap_lt HX5.out) HX5.out)
    have HY6 := Lib.hid (heap_below E6 (heap_lt HY5.out) HY5.out)
    have HZ6 := Lib.hid (heap_below E6 (heap_lt HZ5.out) HZ5.out)
    clear E6
    obtain ⟨x0, x1, _, _, hxl⟩ := own2 HX6.out
    go_wp2_with fail
    refine (CKA.out _ HB6.out).mono ?_
    rintro e w7 ⟨rfl, hb⟩
    have HB7 := Lib.hid (HB6.out.trans (hb.mono HB6.out.size))
    have HX7 := Lib.hid (heap_below hb (heap_lt HX6.out) HX6.out)
    have HY7 := Lib.hid (heap_below hb (heap_lt HY6.out) HY6.out)
    have HZ7 := Lib.hid (heap_below hb (heap_lt HZ6.out) HZ6.out)
    clear hb x0 x1 hxl
    cases KA
    · go_wp2_with fail
      refine (CW.out _ HB7.out).mono ?_
      rintro e w8 ⟨rfl, hb⟩
      go_wp2_with fail
      go_ret
      exact ⟨rfl, HB7.out.trans (hb.mono HB7.out.size)⟩
    · obtain ⟨y0, y1, _, _, hyl⟩ := own2 HY7.out
      go_wp2_with fail
      refine (CKB.out _ HB7.out).mono ?_
      rintro e w8 ⟨rfl, hb⟩
      have HB8 := Lib.hid (HB7.out.trans (hb.mono HB7.out.size))
      have HX8 := Lib.hid (heap_below hb (heap_lt HX7.out) HX7.out)
      have HY8 := Lib.hid (heap_below hb (heap_lt HY7.out) HY7.out)
      have HZ8 := Lib.hid (heap_below hb (heap_lt HZ7.out) HZ7.out)
      clear hb y0 y1 hyl
      cases KB
      · go_wp2_with fail
        refine (CW.out _ HB8.out).mono ?_
        rintro e w9 ⟨rfl, hb⟩
        go_wp2_with fail
        go_ret
        exact ⟨rfl, HB8.out.trans (hb.mono HB8.out.size)⟩
      · have k0 := HK0.out (by first | rfl | trivial) (by first | rfl | trivial)
        have k1 := HK1.out (by first | rfl | trivial) (by first | rfl | trivial)
        have k2 := HK2.out (by first | rfl | trivial) (by first | rfl | trivial)
        subst k0 k1 k2
        have hss : (true == true) = true := rfl
        obtain ⟨x0, x1, _, _, hxl⟩ := own2 HX8.out
        obtain ⟨y0, y1, _, _, hyl⟩ := own2 HY8.out
        go_wp2_with fail
        refine (CSS.out _ HB8.out).mono ?_
        rintro e w9 ⟨rfl, hb⟩
        have HB9 := Lib.hid (HB8.out.trans (hb.mono HB8.out.size))
        have HX9 := Lib.hid (heap_below hb (heap_lt HX8.out) HX8.out)
        have HY9 := Lib.hid (heap_below hb (heap_lt HY8.out) HY8.out)
        have HZ9 := Lib.hid (heap_below hb (heap_lt HZ8.out) HZ8.out)
        clear hb x0 x1 hxl y0 y1 hyl
        obtain ⟨x0, x1, _, _, hxl⟩ := own2 HX9.out
        obtain ⟨y0, y1, _, _, hyl⟩ := own2 HY9.out
        go_wp2_with fail
        refine (CAB.out _ HB9.out).mono ?_
        rintro e w10 ⟨rfl, hb⟩
        have HB10 := Lib.hid (HB9.out.trans (hb.mono HB9.out.size))
        have HX10 := Lib.hid (heap_below hb (heap_lt HX9.out) HX9.out)
        have HY10 := Lib.hid (heap_below hb (heap_lt HY9.out) HY9.out)
        have HZ10 := Lib.hid (heap_below hb (heap_lt HZ9.out) HZ9.out)
        clear hb x0 x1 hxl y0 y1 hyl
        obtain ⟨x0, x1, _, _, hxl⟩ := own2 HX10.out
        obtain ⟨y0, y1, _, _, hyl⟩ := own2 HY10.out
        go_wp2_with fail
        refine (CP.out _ HB10.out).mono ?_
        rintro e w11 ⟨rfl, hb⟩
        have HB11 := Lib.hid (HB10.out.trans (hb.mono HB10.out.size))
        have HX11 := Lib.hid (heap_below hb (heap_lt HX10.out) HX10.out)
        have HY11 := Lib.hid (heap_below hb (heap_lt HY10.out) HY10.out)
        have HZ11 := Lib.hid (heap_below hb (heap_lt HZ10.out) HZ10.out)
        clear hb x0 x1 hxl y0 y1 hyl
        obtain ⟨x0, x1, _, _, hxl⟩ := own2 HX11.out
        obtain ⟨y0, y1, _, _, hyl⟩ := own2 HY11.out
        go_wp2_with fail
        refine (CN.out _ HB11.out).mono ?_
        rintro e w12 ⟨rfl, hb⟩
        have HB12 := Lib.hid (HB11.out.trans (hb.mono HB11.out.size))
        have HX12 := Lib.hid (heap_below hb (heap_lt HX11.out) HX11.out)
        have HY12 := Lib.hid (heap_below hb (heap_lt HY11.out) HY11.out)
        have HZ12 := Lib.hid (heap_below hb (heap_lt HZ11.out) HZ11.out)
        clear hb x0 x1 hxl y0 y1 hyl
        go_wp2_with fail
        refine (CW.out _ HB12.out).mono ?_
        rintro e w13 ⟨rfl, hb⟩
        go_wp2_with fail
        go_ret
        exact ⟨rfl, HB12.out.trans (hb.mono HB12.out.size)⟩
end Go.Proofs.YtdeomggkhbdkaaaDoor
