/-
  P8.2, P8.4: made of parts. The law's walk.
-/
import Derived.Test.YtdeomggkhbdkaaaDoorBl6
import Derived.Test.YtdeomggkhbdkaaaDoorLow
import Derived.Test.YtdeomggkhbdkaaaDoorCounted
import Derived.Deep.DeepCutAuto
namespace Go.Proofs.YtdeomggkhbdkaaaDoor
open Go.RowKit

theorem four_boxes8 (w : World) (o1 o2 o3 o4 : Obj) : ((((w.alloc o1).alloc o2).alloc o3).alloc o4).heap[w.heap.size]? = some o1 ∧ ((((w.alloc o1).alloc o2).alloc o3).alloc o4).heap[w.heap.size + 1]? = some o2 ∧ ((((w.alloc o1).alloc o2).alloc o3).alloc o4).heap[w.heap.size + 1 + 1]? = some o3 ∧ ((((w.alloc o1).alloc o2).alloc o3).alloc o4).heap[w.heap.size + 1 + 1 + 1]? = some o4 ∧ Below w.heap.size w ((((w.alloc o1).alloc o2).alloc o3).alloc o4) := by
  obtain ⟨h1, h2, h3⟩ := two_new w o1 o2
  have h4 := heap_new ((w.alloc o1).alloc o2) o3
  rw [h3] at h4
  have h5 := heap_new (((w.alloc o1).alloc o2).alloc o3) o4
  have h6 : (((w.alloc o1).alloc o2).alloc o3).heap.size = w.heap.size + 3 := by simp
  rw [h6] at h5
  refine ⟨heap_old (heap_old h1 _) _, heap_old (heap_old h2 _) _, heap_old h4 _, h5, ((((Below.refl _ _).alloc (Nat.le_refl _) _).alloc (by simp) _).alloc (by simp; omega) _).alloc (by simp; omega) _⟩
set_option maxHeartbeats 8000000 in
set_option maxRecDepth 100000 in
theorem law_BelowUp (k : Int) (kids : Fo) (A : Option Addr) (n c : Nat) (k' : Int) (kids' : Fo) (A' : Option Addr) (n' c' : Nat) (k'' : Int) (kids'' : Fo) (A'' : Option Addr) (n'' c'' : Nat) (k3 : Int) (kids3 : Fo) (A3 : Option Addr) (n3 c3 : Nat) (w : World) (hIs : Ty.Is w k kids A n c) (hIs' : Ty.Is w k' kids' A' n' c') (hIs'' : Ty.Is w k'' kids'' A'' n'' c'') (hIs3 : Ty.Is w k3 kids3 A3 n3 c3) (hS : Shapes w) :
    Calls Tryd.prog 6 #[.agg #[.int .i8 k, .slice A n c], .agg #[.int .i8 k', .slice A' n' c'], .agg #[.int .i8 k'', .slice A'' n'' c''], .agg #[.int .i8 k3, .slice A3 n3 c3]] w fun e w' => e = .returned (.bool true) ∧ Below w.heap.size w w' := by
  have CSa := Lib.hid (fun (u : World) (hb : Below w.heap.size w u) => small_any k kids A n c u (hIs.below hb))
  have CSb := Lib.hid (fun (u : World) (hb : Below w.heap.size w u) => small_any k' kids' A' n' c' u (hIs'.below hb))
  have CSc := Lib.hid (fun (u : World) (hb : Below w.heap.size w u) => small_any k'' kids'' A'' n'' c'' u (hIs''.below hb))
  have CSd := Lib.hid (fun (u : World) (hb : Below w.heap.size w u) => small_any k3 kids3 A3 n3 c3 u (hIs3.below hb))
  have AC0 := Lib.hid (fun (u : World) (hb : Below w.heap.size w u) => below0_any k kids A n c k'' kids'' A'' n'' c'' u (hIs.below hb) (hIs''.below hb) (hS.below hb))
  have BD0 := Lib.hid (fun (u : World) (hb : Below w.heap.size w u) => below0_any k' kids' A' n' c' k3 kids3 A3 n3 c3 u (hIs'.below hb) (hIs3.below hb) (hS.below hb))
  have CA0 := Lib.hid (fun (u : World) (hb : Below w.heap.size w u) => below0_any k'' kids'' A'' n'' c'' k kids A n c u (hIs''.below hb) (hIs.below hb) (hS.below hb))
  have AC1 := Lib.hid (fun (u : World) (hb : Below w.heap.size w u) => below1_any k kids A n c k'' kids'' A'' n'' c'' u (hIs.below hb) (hIs''.below hb) (hS.below hb))
  have BD1 := Lib.hid (fun (u : World) (hb : Below w.heap.size w u) => below1_any k' kids' A' n' c' k3 kids3 A3 n3 c3 u (hIs'.below hb) (hIs3.below hb) (hS.below hb))
  have CA1 := Lib.hid (fun (u : World) (hb : Below w.heap.size w u) => below1_any k'' kids'' A'' n'' c'' k kids A n c u (hIs''.below hb) (hIs.below hb) (hS.below hb))
  have AC2 := Lib.hid (fun (u : World) (hb : Below w.heap.size w u) => below2_any k kids A n c k'' kids'' A'' n'' c'' u (hIs.below hb) (hIs''.below hb) (hS.below hb))
  have BD2 := Lib.hid (fun (u : World) (hb : Below w.heap.size w u) => below2_any k' kids' A' n' c' k3 kids3 A3 n3 c3 u (hIs'.below hb) (hIs3.below hb) (hS.below hb))
  have CA2 := Lib.hid (fun (u : World) (hb : Below w.heap.size w u) => below2_any k'' kids'' A'' n'' c'' k kids A n c u (hIs''.below hb) (hIs.below hb) (hS.below hb))
  have OAB4 := Lib.hid (fun (u : World) (hb : Below w.heap.size w u) => of_any 4 ⟨by decide, by decide⟩ k kids A n c k' kids' A' n' c' u (hIs.below hb) (hIs'.below hb))
  have OAB3 := Lib.hid (fun (u : World) (hb : Below w.heap.size w u) => of_any 3 ⟨by decide, by decide⟩ k kids A n c k' kids' A' n' c' u (hIs.below hb) (hIs'.below hb))
  have OCD4 := Lib.hid (fun (u : World) (hb : Below w.heap.size w u) => of_any 4 ⟨by decide, by decide⟩ k'' kids'' A'' n'' c'' k3 kids3 A3 n3 c3 u (hIs''.below hb) (hIs3.below hb))
  have OCD3 := Lib.hid (fun (u : World) (hb : Below w.heap.size w u) => of_any 3 ⟨by decide, by decide⟩ k'' kids'' A'' n'' c'' k3 kids3 A3 n3 c3 u (hIs''.below hb) (hIs3.below hb))
  have CW := Lib.hid (fun (u : World) (hb : Below w.heap.size w u) => wakes8_any u (hS.below hb))
  have HSH := Lib.hid (fun (u : World) (hb : Below w.heap.size w u) => hS.below hb)
  obtain ⟨hA0, hA1, hA2, hA3, hB1⟩ := four_boxes8 w (.cells #[.int .i8 k, .slice A n c] 25) (.cells #[.int .i8 k', .slice A' n' c'] 25) (.cells #[.int .i8 k'', .slice A'' n'' c''] 25) (.cells #[.int .i8 k3, .slice A3 n3 c3] 25)
  generalize hw1 : (((w.alloc (.cells #[.int .i8 k, .slice A n c] 25)).alloc (.cells #[.int .i8 k', .slice A' n' c'] 25)).alloc (.cells #[.int .i8 k'', .slice A'' n'' c''] 25)).alloc (.cells #[.int .i8 k3, .slice A3 n3 c3] 25) = w1 at *
  have HW1 := Lib.hid hw1
  have HB1 := Lib.hid hB1
  have HX1 := Lib.hid hA0
  have HY1 := Lib.hid hA1
  have HZ1 := Lib.hid hA2
  have HV1 := Lib.hid hA3
  clear hIs hIs' hIs'' hIs3 hS hw1 hA0 hA1 hA2 hA3 hB1
  generalize decide (Ty.nodes kids + 1 ≤ 32768) = Sa at *
  generalize decide (Ty.nodes kids' + 1 ≤ 32768) = Sb at *
  generalize decide (Ty.nodes kids'' + 1 ≤ 32768) = Sc at *
  generalize decide (Ty.nodes kids3 + 1 ≤ 32768) = Sd at *
  obtain ⟨x0, x1, _, _, hxl⟩ := own2 HX1.out
  go_enter Tryd.func6, Tryd.ntmps6
  go_upto_region 1 with fail
  rw [HW1.out]
  go_wp2_with fail
  refine (CSa.out _ HB1.out).mono ?_
  rintro e w2 ⟨rfl, hb⟩
  have HB2 := Lib.hid (HB1.out.trans (hb.mono HB1.out.size))
  have HX2 := Lib.hid (heap_below hb (heap_lt HX1.out) HX1.out)
  have HY2 := Lib.hid (heap_below hb (heap_lt HY1.out) HY1.out)
  have HZ2 := Lib.hid (heap_below hb (heap_lt HZ1.out) HZ1.out)
  have HV2 := Lib.hid (heap_below hb (heap_lt HV1.out) HV1.out)
  clear hb x0 x1 hxl
  cases Sa
  · go_wp2_with fail
    refine (CW.out _ HB2.out).mono ?_
    rintro e w3 ⟨rfl, hb⟩
    go_wp2_with fail
    go_ret
    exact ⟨rfl, HB2.out.trans (hb.mono HB2.out.size)⟩
  obtain ⟨y0, y1, _, _, hyl⟩ := own2 HY2.out
  go_wp2_with fail
  refine (CSb.out _ HB2.out).mono ?_
  rintro e w3 ⟨rfl, hb⟩
  have HB3 := Lib.hid (HB2.out.trans (hb.mono HB2.out.size))
  have HX3 := Lib.hid (heap_below hb (heap_lt HX2.out) HX2.out)
  have HY3 := Lib.hid (heap_below hb (heap_lt HY2.out) HY2.out)
  have HZ3 := Lib.hid (heap_below hb (heap_lt HZ2.out) HZ2.out)
  have HV3 := Lib.hid (heap_below hb (heap_lt HV2.out) HV2.out)
  clear hb y0 y1 hyl
  cases Sb
  · go_wp2_with fail
    refine (CW.out _ HB3.out).mono ?_
    rintro e w4 ⟨rfl, hb⟩
    go_wp2_with fail
    go_ret
    exact ⟨rfl, HB3.out.trans (hb.mono HB3.out.size)⟩
  obtain ⟨z0, z1, _, _, hzl⟩ := own2 HZ3.out
  go_wp2_with fail
  refine (CSc.out _ HB3.out).mono ?_
  rintro e w4 ⟨rfl, hb⟩
  have HB4 := Lib.hid (HB3.out.trans (hb.mono HB3.out.size))
  have HX4 := Lib.hid (heap_below hb (heap_lt HX3.out) HX3.out)
  have HY4 := Lib.hid (heap_below hb (heap_lt HY3.out) HY3.out)
  have HZ4 := Lib.hid (heap_below hb (heap_lt HZ3.out) HZ3.out)
  have HV4 := Lib.hid (heap_below hb (heap_lt HV3.out) HV3.out)
  clear hb z0 z1 hzl
  cases Sc
  · go_wp2_with fail
    refine (CW.out _ HB4.out).mono ?_
    rintro e w5 ⟨rfl, hb⟩
    go_wp2_with fail
    go_ret
    exact ⟨rfl, HB4.out.trans (hb.mono HB4.out.size)⟩
  obtain ⟨v0, v1, _, _, hvl⟩ := own2 HV4.out
  go_wp2_with fail
  refine (CSd.out _ HB4.out).mono ?_
  rintro e w5 ⟨rfl, hb⟩
  have HB5 := Lib.hid (HB4.out.trans (hb.mono HB4.out.size))
  have HX5 := Lib.hid (heap_below hb (heap_lt HX4.out) HX4.out)
  have HY5 := Lib.hid (heap_below hb (heap_lt HY4.out) HY4.out)
  have HZ5 := Lib.hid (heap_below hb (heap_lt HZ4.out) HZ4.out)
  have HV5 := Lib.hid (heap_below hb (heap_lt HV4.out) HV4.out)
  clear hb v0 v1 hvl
  cases Sd
  · go_wp2_with fail
    refine (CW.out _ HB5.out).mono ?_
    rintro e w6 ⟨rfl, hb⟩
    go_wp2_with fail
    go_ret
    exact ⟨rfl, HB5.out.trans (hb.mono HB5.out.size)⟩
  obtain ⟨x0, x1, _, _, hxl⟩ := own2 HX5.out
  obtain ⟨y0, y1, _, _, hyl⟩ := own2 HY5.out
  go_wp2_with fail
  refine (OAB4.out _ HB5.out).mono ?_
  rintro e w6 ⟨N, rfl, -, hic, hb⟩
  have HIN6 := Lib.hid hic
  clear hic
  have HB6 := Lib.hid (HB5.out.trans (hb.mono HB5.out.size))
  have HX6 := Lib.hid (heap_below hb (heap_lt HX5.out) HX5.out)
  have HY6 := Lib.hid (heap_below hb (heap_lt HY5.out) HY5.out)
  have HZ6 := Lib.hid (heap_below hb (heap_lt HZ5.out) HZ5.out)
  have HV6 := Lib.hid (heap_below hb (heap_lt HV5.out) HV5.out)
  clear hb x0 x1 hxl y0 y1 hyl
  have hbn : Below w6.heap.size w6 (w6.alloc (.cells #[.int .i8 4, .slice (some ⟨N, 0, none⟩) 2 2] 25)) := (Below.refl _ _).alloc (Nat.le_refl _) _
  have HB7 := Lib.hid (HB6.out.trans (hbn.mono HB6.out.size))
  have HX7 := Lib.hid (heap_below hbn (heap_lt HX6.out) HX6.out)
  have HY7 := Lib.hid (heap_below hbn (heap_lt HY6.out) HY6.out)
  have HZ7 := Lib.hid (heap_below hbn (heap_lt HZ6.out) HZ6.out)
  have HV7 := Lib.hid (heap_below hbn (heap_lt HV6.out) HV6.out)
  have HP7 := Lib.hid (heap_new w6 (.cells #[.int .i8 4, .slice (some ⟨N, 0, none⟩) 2 2] 25))
  have HIN7 := Lib.hid (HIN6.out.below hbn)
  clear hbn
  go_upto_region 4 with fail
  generalize w6.alloc (.cells #[.int .i8 4, .slice (some ⟨N, 0, none⟩) 2 2] 25) = w7 at *
  obtain ⟨z0, z1, _, _, hzl⟩ := own2 HZ7.out
  obtain ⟨v0, v1, _, _, hvl⟩ := own2 HV7.out
  go_wp2_with fail
  refine (OCD4.out _ HB7.out).mono ?_
  rintro e w8 ⟨M, rfl, -, hic, hb⟩
  have HIM8 := Lib.hid hic
  clear hic
  have HB8 := Lib.hid (HB7.out.trans (hb.mono HB7.out.size))
  have HX8 := Lib.hid (heap_below hb (heap_lt HX7.out) HX7.out)
  have HY8 := Lib.hid (heap_below hb (heap_lt HY7.out) HY7.out)
  have HZ8 := Lib.hid (heap_below hb (heap_lt HZ7.out) HZ7.out)
  have HV8 := Lib.hid (heap_below hb (heap_lt HV7.out) HV7.out)
  have HP8 := Lib.hid (heap_below hb (heap_lt HP7.out) HP7.out)
  have HIN8 := Lib.hid (HIN7.out.below hb)
  clear hb z0 z1 hzl v0 v1 hvl
  have hbn : Below w8.heap.size w8 (w8.alloc (.cells #[.int .i8 4, .slice (some ⟨M, 0, none⟩) 2 2] 25)) := (Below.refl _ _).alloc (Nat.le_refl _) _
  have HB9 := Lib.hid (HB8.out.trans (hbn.mono HB8.out.size))
  have HX9 := Lib.hid (heap_below hbn (heap_lt HX8.out) HX8.out)
  have HY9 := Lib.hid (heap_below hbn (heap_lt HY8.out) HY8.out)
  have HZ9 := Lib.hid (heap_below hbn (heap_lt HZ8.out) HZ8.out)
  have HV9 := Lib.hid (heap_below hbn (heap_lt HV8.out) HV8.out)
  have HP9 := Lib.hid (heap_below hbn (heap_lt HP8.out) HP8.out)
  have HQ9 := Lib.hid (heap_new w8 (.cells #[.int .i8 4, .slice (some ⟨M, 0, none⟩) 2 2] 25))
  have HIN9 := Lib.hid (HIN8.out.below hbn)
  have HIM9 := Lib.hid (HIM8.out.below hbn)
  clear hbn
  go_upto_region 5 with fail
  generalize w8.alloc (.cells #[.int .i8 4, .slice (some ⟨M, 0, none⟩) 2 2] 25) = w9 at *
  obtain ⟨x0, x1, _, _, hxl⟩ := own2 HX9.out
  obtain ⟨y0, y1, _, _, hyl⟩ := own2 HY9.out
  go_wp2_with fail
  refine (OAB3.out _ HB9.out).mono ?_
  rintro e w10 ⟨K, rfl, -, hic, hb⟩
  have HIK10 := Lib.hid hic
  clear hic
  have HB10 := Lib.hid (HB9.out.trans (hb.mono HB9.out.size))
  have HX10 := Lib.hid (heap_below hb (heap_lt HX9.out) HX9.out)
  have HY10 := Lib.hid (heap_below hb (heap_lt HY9.out) HY9.out)
  have HZ10 := Lib.hid (heap_below hb (heap_lt HZ9.out) HZ9.out)
  have HV10 := Lib.hid (heap_below hb (heap_lt HV9.out) HV9.out)
  have HP10 := Lib.hid (heap_below hb (heap_lt HP9.out) HP9.out)
  have HQ10 := Lib.hid (heap_below hb (heap_lt HQ9.out) HQ9.out)
  have HIN10 := Lib.hid (HIN9.out.below hb)
  have HIM10 := Lib.hid (HIM9.out.below hb)
  clear hb x0 x1 hxl y0 y1 hyl
  have hbn : Below w10.heap.size w10 (w10.alloc (.cells #[.int .i8 3, .slice (some ⟨K, 0, none⟩) 2 2] 25)) := (Below.refl _ _).alloc (Nat.le_refl _) _
  have HB11 := Lib.hid (HB10.out.trans (hbn.mono HB10.out.size))
  have HX11 := Lib.hid (heap_below hbn (heap_lt HX10.out) HX10.out)
  have HY11 := Lib.hid (heap_below hbn (heap_lt HY10.out) HY10.out)
  have HZ11 := Lib.hid (heap_below hbn (heap_lt HZ10.out) HZ10.out)
  have HV11 := Lib.hid (heap_below hbn (heap_lt HV10.out) HV10.out)
  have HP11 := Lib.hid (heap_below hbn (heap_lt HP10.out) HP10.out)
  have HQ11 := Lib.hid (heap_below hbn (heap_lt HQ10.out) HQ10.out)
  have HF11 := Lib.hid (heap_new w10 (.cells #[.int .i8 3, .slice (some ⟨K, 0, none⟩) 2 2] 25))
  have HIN11 := Lib.hid (HIN10.out.below hbn)
  have HIM11 := Lib.hid (HIM10.out.below hbn)
  have HIK11 := Lib.hid (HIK10.out.below hbn)
  clear hbn
  go_upto_region 6 with fail
  generalize w10.alloc (.cells #[.int .i8 3, .slice (some ⟨K, 0, none⟩) 2 2] 25) = w11 at *
  obtain ⟨z0, z1, _, _, hzl⟩ := own2 HZ11.out
  obtain ⟨v0, v1, _, _, hvl⟩ := own2 HV11.out
  go_wp2_with fail
  refine (OCD3.out _ HB11.out).mono ?_
  rintro e w12 ⟨L, rfl, -, hic, hb⟩
  have HIL12 := Lib.hid hic
  clear hic
  have HB12 := Lib.hid (HB11.out.trans (hb.mono HB11.out.size))
  have HX12 := Lib.hid (heap_below hb (heap_lt HX11.out) HX11.out)
  have HY12 := Lib.hid (heap_below hb (heap_lt HY11.out) HY11.out)
  have HZ12 := Lib.hid (heap_below hb (heap_lt HZ11.out) HZ11.out)
  have HV12 := Lib.hid (heap_below hb (heap_lt HV11.out) HV11.out)
  have HP12 := Lib.hid (heap_below hb (heap_lt HP11.out) HP11.out)
  have HQ12 := Lib.hid (heap_below hb (heap_lt HQ11.out) HQ11.out)
  have HF12 := Lib.hid (heap_below hb (heap_lt HF11.out) HF11.out)
  have HIN12 := Lib.hid (HIN11.out.below hb)
  have HIM12 := Lib.hid (HIM11.out.below hb)
  have HIK12 := Lib.hid (HIK11.out.below hb)
  clear hb z0 z1 hzl v0 v1 hvl
  have hbn : Below w12.heap.size w12 (w12.alloc (.cells #[.int .i8 3, .slice (some ⟨L, 0, none⟩) 2 2] 25)) := (Below.refl _ _).alloc (Nat.le_refl _) _
  have HB13 := Lib.hid (HB12.out.trans (hbn.mono HB12.out.size))
  have HX13 := Lib.hid (heap_below hbn (heap_lt HX12.out) HX12.out)
  have HY13 := Lib.hid (heap_below hbn (heap_lt HY12.out) HY12.out)
  have HZ13 := Lib.hid (heap_below hbn (heap_lt HZ12.out) HZ12.out)
  have HV13 := Lib.hid (heap_below hbn (heap_lt HV12.out) HV12.out)
  have HP13 := Lib.hid (heap_below hbn (heap_lt HP12.out) HP12.out)
  have HQ13 := Lib.hid (heap_below hbn (heap_lt HQ12.out) HQ12.out)
  have HF13 := Lib.hid (heap_below hbn (heap_lt HF12.out) HF12.out)
  have HG13 := Lib.hid (heap_new w12 (.cells #[.int .i8 3, .slice (some ⟨L, 0, none⟩) 2 2] 25))
  have HIN13 := Lib.hid (HIN12.out.below hbn)
  have HIM13 := Lib.hid (HIM12.out.below hbn)
  have HIK13 := Lib.hid (HIK12.out.below hbn)
  have HIL13 := Lib.hid (HIL12.out.below hbn)
  clear hbn
  go_upto_region 7 with fail
  generalize w12.alloc (.cells #[.int .i8 3, .slice (some ⟨L, 0, none⟩) 2 2] 25) = w13 at *
  have KCF := Lib.hid (fun (u : World) (hE : Below w13.heap.size w13 u) => check_any 3 (Ty.two k kids k' kids') (some ⟨K, 0, none⟩) 2 2 u (HIK13.out.below hE) (HSH.out u (HB13.out.trans (hE.mono HB13.out.size))))
  have KCG := Lib.hid (fun (u : World) (hE : Below w13.heap.size w13 u) => check_any 3 (Ty.two k'' kids'' k3 kids3) (some ⟨L, 0, none⟩) 2 2 u (HIL13.out.below hE) (HSH.out u (HB13.out.trans (hE.mono HB13.out.size))))
  have PQ0 := Lib.hid (fun (u : World) (hE : Below w13.heap.size w13 u) => below0_any 4 (Ty.two k kids k' kids') (some ⟨N, 0, none⟩) 2 2 4 (Ty.two k'' kids'' k3 kids3) (some ⟨M, 0, none⟩) 2 2 u (HIN13.out.below hE) (HIM13.out.below hE) (HSH.out u (HB13.out.trans (hE.mono HB13.out.size))))
  have FG0 := Lib.hid (fun (u : World) (hE : Below w13.heap.size w13 u) => below0_any 3 (Ty.two k kids k' kids') (some ⟨K, 0, none⟩) 2 2 3 (Ty.two k'' kids'' k3 kids3) (some ⟨L, 0, none⟩) 2 2 u (HIK13.out.below hE) (HIL13.out.below hE) (HSH.out u (HB13.out.trans (hE.mono HB13.out.size))))
  have ACv0 := Lib.hid (fun (u : World) (hE : Below w13.heap.size w13 u) => AC0.out u (HB13.out.trans (hE.mono HB13.out.size)))
  have BDv0 := Lib.hid (fun (u : World) (hE : Below w13.heap.size w13 u) => BD0.out u (HB13.out.trans (hE.mono HB13.out.size)))
  have CAv0 := Lib.hid (fun (u : World) (hE : Below w13.heap.size w13 u) => CA0.out u (HB13.out.trans (hE.mono HB13.out.size)))
  have PQ1 := Lib.hid (fun (u : World) (hE : Below w13.heap.size w13 u) => below1_any 4 (Ty.two k kids k' kids') (some ⟨N, 0, none⟩) 2 2 4 (Ty.two k'' kids'' k3 kids3) (some ⟨M, 0, none⟩) 2 2 u (HIN13.out.below hE) (HIM13.out.below hE) (HSH.out u (HB13.out.trans (hE.mono HB13.out.size))))
  have FG1 := Lib.hid (fun (u : World) (hE : Below w13.heap.size w13 u) => below1_any 3 (Ty.two k kids k' kids') (some ⟨K, 0, none⟩) 2 2 3 (Ty.two k'' kids'' k3 kids3) (some ⟨L, 0, none⟩) 2 2 u (HIK13.out.below hE) (HIL13.out.below hE) (HSH.out u (HB13.out.trans (hE.mono HB13.out.size))))
  have ACv1 := Lib.hid (fun (u : World) (hE : Below w13.heap.size w13 u) => AC1.out u (HB13.out.trans (hE.mono HB13.out.size)))
  have BDv1 := Lib.hid (fun (u : World) (hE : Below w13.heap.size w13 u) => BD1.out u (HB13.out.trans (hE.mono HB13.out.size)))
  have CAv1 := Lib.hid (fun (u : World) (hE : Below w13.heap.size w13 u) => CA1.out u (HB13.out.trans (hE.mono HB13.out.size)))
  have PQ2 := Lib.hid (fun (u : World) (hE : Below w13.heap.size w13 u) => below2_any 4 (Ty.two k kids k' kids') (some ⟨N, 0, none⟩) 2 2 4 (Ty.two k'' kids'' k3 kids3) (some ⟨M, 0, none⟩) 2 2 u (HIN13.out.below hE) (HIM13.out.below hE) (HSH.out u (HB13.out.trans (hE.mono HB13.out.size))))
  have FG2 := Lib.hid (fun (u : World) (hE : Below w13.heap.size w13 u) => below2_any 3 (Ty.two k kids k' kids') (some ⟨K, 0, none⟩) 2 2 3 (Ty.two k'' kids'' k3 kids3) (some ⟨L, 0, none⟩) 2 2 u (HIK13.out.below hE) (HIL13.out.below hE) (HSH.out u (HB13.out.trans (hE.mono HB13.out.size))))
  have ACv2 := Lib.hid (fun (u : World) (hE : Below w13.heap.size w13 u) => AC2.out u (HB13.out.trans (hE.mono HB13.out.size)))
  have BDv2 := Lib.hid (fun (u : World) (hE : Below w13.heap.size w13 u) => BD2.out u (HB13.out.trans (hE.mono HB13.out.size)))
  have CAv2 := Lib.hid (fun (u : World) (hE : Below w13.heap.size w13 u) => CA2.out u (HB13.out.trans (hE.mono HB13.out.size)))
  have CWv := Lib.hid (fun (u : World) (hE : Below w13.heap.size w13 u) => CW.out u (HB13.out.trans (hE.mono HB13.out.size)))
  have HBB := Lib.hid (Below.refl w13.heap.size w13)
  clear CSa CSb CSc CSd AC0 BD0 CA0 AC1 BD1 CA1 AC2 BD2 CA2 OAB4 OAB3 OCD4 OCD3 CW HW1
  have HCC := Lib.hid (show (Ty.chk 3 (Ty.two k kids k' kids') = 0 ∧ Ty.chk 3 (Ty.two k'' kids'' k3 kids3) = 0) ∨ (Ty.chk 3 (Ty.two k kids k' kids') ≠ 0) ∨ (Ty.chk 3 (Ty.two k kids k' kids') = 0 ∧ Ty.chk 3 (Ty.two k'' kids'' k3 kids3) ≠ 0) from by
    by_cases h1 : Ty.chk 3 (Ty.two k kids k' kids') = 0
    · by_cases h2 : Ty.chk 3 (Ty.two k'' kids'' k3 kids3) = 0
      · exact .inl ⟨h1, h2⟩
      · exact .inr (.inr ⟨h1, h2⟩)
    · exact .inr (.inl h1))
  rcases HCC.out with ⟨hf, hg⟩ | hf | ⟨hf, hg⟩
  · have HBX := HB13
    clear HB13
    have HB13 := HBB
    rw [hf] at KCF
    rw [hg] at KCG
    rw [Ty.bel_pair hf hg] at PQ0
    rw [Ty.bel_fun hf hg, Ty.sw_zero] at FG0
    rw [Ty.bel_pair hf hg] at PQ1
    rw [Ty.bel_fun hf hg, Ty.sw_one] at FG1
    rw [Ty.bel_pair hf hg] at PQ2
    rw [Ty.bel_fun hf hg, Ty.sw_two] at FG2
    generalize Ty.belowT 0 k kids k'' kids'' = P0 at *
    generalize Ty.belowT 0 k' kids' k3 kids3 = Q0 at *
    generalize Ty.belowT 0 k'' kids'' k kids = R0 at *
    have HQ0 := Lib.hid (show (Q0 == Q0) = true from by simp)
    generalize Ty.belowT 1 k kids k'' kids'' = P1 at *
    generalize Ty.belowT 1 k' kids' k3 kids3 = Q1 at *
    generalize Ty.belowT 1 k'' kids'' k kids = R1 at *
    have HQ1 := Lib.hid (show (Q1 == Q1) = true from by simp)
    generalize Ty.belowT 2 k kids k'' kids'' = P2 at *
    generalize Ty.belowT 2 k' kids' k3 kids3 = Q2 at *
    generalize Ty.belowT 2 k'' kids'' k kids = R2 at *
    have HQ2 := Lib.hid (show (Q2 == Q2) = true from by simp)
    clear hf hg HCC
    obtain ⟨f0, f1, _, _, hfl⟩ := own2 HF13.out
    go_wp2_with fail
    refine (KCF.out _ HB13.out).mono ?_
    rintro e w14 ⟨rfl, hb⟩
    have HB14 := Lib.hid (HB13.out.trans (hb.mono HB13.out.size))
    have HX14 := Lib.hid (heap_below hb (heap_lt HX13.out) HX13.out)
    have HY14 := Lib.hid (heap_below hb (heap_lt HY13.out) HY13.out)
    have HZ14 := Lib.hid (heap_below hb (heap_lt HZ13.out) HZ13.out)
    have HV14 := Lib.hid (heap_below hb (heap_lt HV13.out) HV13.out)
    have HP14 := Lib.hid (heap_below hb (heap_lt HP13.out) HP13.out)
    have HQ14 := Lib.hid (heap_below hb (heap_lt HQ13.out) HQ13.out)
    have HF14 := Lib.hid (heap_below hb (heap_lt HF13.out) HF13.out)
    have HG14 := Lib.hid (heap_below hb (heap_lt HG13.out) HG13.out)
    clear hb f0 f1 hfl
    obtain ⟨g0, g1, _, _, hgl⟩ := own2 HG14.out
    go_wp2_with fail
    refine (KCG.out _ HB14.out).mono ?_
    rintro e w15 ⟨rfl, hb⟩
    have HB15 := Lib.hid (HB14.out.trans (hb.mono HB14.out.size))
    have HX15 := Lib.hid (heap_below hb (heap_lt HX14.out) HX14.out)
    have HY15 := Lib.hid (heap_below hb (heap_lt HY14.out) HY14.out)
    have HZ15 := Lib.hid (heap_below hb (heap_lt HZ14.out) HZ14.out)
    have HV15 := Lib.hid (heap_below hb (heap_lt HV14.out) HV14.out)
    have HP15 := Lib.hid (heap_below hb (heap_lt HP14.out) HP14.out)
    have HQ15 := Lib.hid (heap_below hb (heap_lt HQ14.out) HQ14.out)
    have HF15 := Lib.hid (heap_below hb (heap_lt HF14.out) HF14.out)
    have HG15 := Lib.hid (heap_below hb (heap_lt HG14.out) HG14.out)
    clear hb g0 g1 hgl
    go_upto_region 9 with fail
    have PQ0w := Lib.hid (fun (u : World) (hE : Below w15.heap.size w15 u) => PQ0.out u (HB15.out.trans (hE.mono HB15.out.size)))
    have PQ1w := Lib.hid (fun (u : World) (hE : Below w15.heap.size w15 u) => PQ1.out u (HB15.out.trans (hE.mono HB15.out.size)))
    have PQ2w := Lib.hid (fun (u : World) (hE : Below w15.heap.size w15 u) => PQ2.out u (HB15.out.trans (hE.mono HB15.out.size)))
    have FG0w := Lib.hid (fun (u : World) (hE : Below w15.heap.size w15 u) => FG0.out u (HB15.out.trans (hE.mono HB15.out.size)))
    have FG1w := Lib.hid (fun (u : World) (hE : Below w15.heap.size w15 u) => FG1.out u (HB15.out.trans (hE.mono HB15.out.size)))
    have FG2w := Lib.hid (fun (u : World) (hE : Below w15.heap.size w15 u) => FG2.out u (HB15.out.trans (hE.mono HB15.out.size)))
    have ACv0w := Lib.hid (fun (u : World) (hE : Below w15.heap.size w15 u) => ACv0.out u (HB15.out.trans (hE.mono HB15.out.size)))
    have BDv0w := Lib.hid (fun (u : World) (hE : Below w15.heap.size w15 u) => BDv0.out u (HB15.out.trans (hE.mono HB15.out.size)))
    have CAv0w := Lib.hid (fun (u : World) (hE : Below w15.heap.size w15 u) => CAv0.out u (HB15.out.trans (hE.mono HB15.out.size)))
    have ACv1w := Lib.hid (fun (u : World) (hE : Below w15.heap.size w15 u) => ACv1.out u (HB15.out.trans (hE.mono HB15.out.size)))
    have BDv1w := Lib.hid (fun (u : World) (hE : Below w15.heap.size w15 u) => BDv1.out u (HB15.out.trans (hE.mono HB15.out.size)))
    have CAv1w := Lib.hid (fun (u : World) (hE : Below w15.heap.size w15 u) => CAv1.out u (HB15.out.trans (hE.mono HB15.out.size)))
    have ACv2w := Lib.hid (fun (u : World) (hE : Below w15.heap.size w15 u) => ACv2.out u (HB15.out.trans (hE.mono HB15.out.size)))
    have BDv2w := Lib.hid (fun (u : World) (hE : Below w15.heap.size w15 u) => BDv2.out u (HB15.out.trans (hE.mono HB15.out.size)))
    have CAv2w := Lib.hid (fun (u : World) (hE : Below w15.heap.size w15 u) => CAv2.out u (HB15.out.trans (hE.mono HB15.out.size)))
    have CWvw := Lib.hid (fun (u : World) (hE : Below w15.heap.size w15 u) => CWv.out u (HB15.out.trans (hE.mono HB15.out.size)))
    clear PQ0 PQ1 PQ2 FG0 FG1 FG2 ACv0 BDv0 CAv0 ACv1 BDv1 CAv1 ACv2 BDv2 CAv2 CWv
    go_cut [13] (fun s13 wx => s13 = .bool true ∧ Below w15.heap.size w15 wx)
    case first =>
      obtain ⟨x0, x1, _, _, hxl⟩ := own2 HX15.out
      have LX0 := later_cell x0
      have LX1 := later_cell x1
      clear x0 x1 hxl
      obtain ⟨y0, y1, _, _, hyl⟩ := own2 HY15.out
      have LY0 := later_cell y0
      have LY1 := later_cell y1
      clear y0 y1 hyl
      obtain ⟨z0, z1, _, _, hzl⟩ := own2 HZ15.out
      have LZ0 := later_cell z0
      have LZ1 := later_cell z1
      clear z0 z1 hzl
      obtain ⟨v0, v1, _, _, hvl⟩ := own2 HV15.out
      have LV0 := later_cell v0
      have LV1 := later_cell v1
      clear v0 v1 hvl
      obtain ⟨p0, p1, _, _, hpl⟩ := own2 HP15.out
      have LP0 := later_cell p0
      have LP1 := later_cell p1
      clear p0 p1 hpl
      obtain ⟨q0, q1, _, _, hql⟩ := own2 HQ15.out
      have LQ0 := later_cell q0
      have LQ1 := later_cell q1
      clear q0 q1 hql
      have hq0 := HQ0.out
      have hq1 := HQ1.out
      have hq2 := HQ2.out
      cases P0
      all_goals
        cases P1
        all_goals
          cases P2
          all_goals
            simp only [Bool.false_and, Bool.true_and] at PQ0w PQ1w PQ2w
            refine wp_region_low (by kernel_rfl) (by kernel_rfl) ?_
            repeat
              first
                | go_big_quiet_skip
                | (go_big_quiet_want
                   go_big_quiet_op
                   first
                     | go_big_quiet_on
                     | (refine ⟨_, fun _ => rfl, ?_⟩
                        go_big_quiet_on)
                     | (apply Exists.intro
                        refine ⟨fun h => ?_, ?_⟩
                        · first
                            | (go_at_call 7; with_reducible exact call_low h (PQ0w.out h.u h.low))
                            | (go_at_call 7; with_reducible exact call_low h (ACv0w.out h.u h.low))
                            | (go_at_call 7; with_reducible exact call_low h (BDv0w.out h.u h.low))
                            | (go_at_call 9; with_reducible exact call_low h (PQ1w.out h.u h.low))
                            | (go_at_call 9; with_reducible exact call_low h (ACv1w.out h.u h.low))
                            | (go_at_call 9; with_reducible exact call_low h (BDv1w.out h.u h.low))
                            | (go_at_call 11; with_reducible exact call_low h (PQ2w.out h.u h.low))
                            | (go_at_call 11; with_reducible exact call_low h (ACv2w.out h.u h.low))
                            | (go_at_call 11; with_reducible exact call_low h (BDv2w.out h.u h.low))
                        go_big_quiet_on))
            refine wpQuiet_nil ?_
            rintro w9 ⟨⟨_, E⟩, rfl⟩
            go_wp2_with fail
            go_meet
            exact ⟨rfl, E⟩
    case rest =>
      obtain ⟨rfl, hbc⟩ := hcut
      have HB16 := Lib.hid (HB15.out.trans (hbc.mono HB15.out.size))
      have HX16 := Lib.hid (heap_below hbc (heap_lt HX15.out) HX15.out)
      have HY16 := Lib.hid (heap_below hbc (heap_lt HY15.out) HY15.out)
      have HZ16 := Lib.hid (heap_below hbc (heap_lt HZ15.out) HZ15.out)
      have HV16 := Lib.hid (heap_below hbc (heap_lt HV15.out) HV15.out)
      have HF16 := Lib.hid (heap_below hbc (heap_lt HF15.out) HF15.out)
      have HG16 := Lib.hid (heap_below hbc (heap_lt HG15.out) HG15.out)
      have FG0x := Lib.hid (fun (u : World) (hE : Below wc.heap.size wc u) => FG0w.out u (hbc.trans (hE.mono hbc.size)))
      have FG1x := Lib.hid (fun (u : World) (hE : Below wc.heap.size wc u) => FG1w.out u (hbc.trans (hE.mono hbc.size)))
      have FG2x := Lib.hid (fun (u : World) (hE : Below wc.heap.size wc u) => FG2w.out u (hbc.trans (hE.mono hbc.size)))
      have BDv0x := Lib.hid (fun (u : World) (hE : Below wc.heap.size wc u) => BDv0w.out u (hbc.trans (hE.mono hbc.size)))
      have CAv0x := Lib.hid (fun (u : World) (hE : Below wc.heap.size wc u) => CAv0w.out u (hbc.trans (hE.mono hbc.size)))
      have BDv1x := Lib.hid (fun (u : World) (hE : Below wc.heap.size wc u) => BDv1w.out u (hbc.trans (hE.mono hbc.size)))
      have CAv1x := Lib.hid (fun (u : World) (hE : Below wc.heap.size wc u) => CAv1w.out u (hbc.trans (hE.mono hbc.size)))
      have BDv2x := Lib.hid (fun (u : World) (hE : Below wc.heap.size wc u) => BDv2w.out u (hbc.trans (hE.mono hbc.size)))
      have CAv2x := Lib.hid (fun (u : World) (hE : Below wc.heap.size wc u) => CAv2w.out u (hbc.trans (hE.mono hbc.size)))
      have CWvx := Lib.hid (fun (u : World) (hE : Below wc.heap.size wc u) => CWvw.out u (hbc.trans (hE.mono hbc.size)))
      clear hbc
      go_upto_region 10 with fail
      obtain ⟨x0, x1, _, _, hxl⟩ := own2 HX16.out
      have LX0 := later_cell x0
      have LX1 := later_cell x1
      clear x0 x1 hxl
      obtain ⟨y0, y1, _, _, hyl⟩ := own2 HY16.out
      have LY0 := later_cell y0
      have LY1 := later_cell y1
      clear y0 y1 hyl
      obtain ⟨z0, z1, _, _, hzl⟩ := own2 HZ16.out
      have LZ0 := later_cell z0
      have LZ1 := later_cell z1
      clear z0 z1 hzl
      obtain ⟨v0, v1, _, _, hvl⟩ := own2 HV16.out
      have LV0 := later_cell v0
      have LV1 := later_cell v1
      clear v0 v1 hvl
      obtain ⟨f0, f1, _, _, hfl⟩ := own2 HF16.out
      have LF0 := later_cell f0
      have LF1 := later_cell f1
      clear f0 f1 hfl
      obtain ⟨g0, g1, _, _, hgl⟩ := own2 HG16.out
      have LG0 := later_cell g0
      have LG1 := later_cell g1
      clear g0 g1 hgl
      have hq0 := HQ0.out
      have hq1 := HQ1.out
      have hq2 := HQ2.out
      cases R0
      all_goals
        cases R1
        all_goals
          cases R2
          all_goals
            simp only [Bool.false_and, Bool.true_and] at FG0x FG1x FG2x
            refine wp_region_low (by kernel_rfl) (by kernel_rfl) ?_
            repeat
              first
                | go_big_quiet_skip
                | (go_big_quiet_want
                   go_big_quiet_op
                   first
                     | go_big_quiet_on
                     | (refine ⟨_, fun _ => rfl, ?_⟩
                        go_big_quiet_on)
                     | (apply Exists.intro
                        refine ⟨fun h => ?_, ?_⟩
                        · first
                            | (go_at_call 7; with_reducible exact call_low h (FG0x.out h.u h.low))
                            | (go_at_call 7; with_reducible exact call_low h (CAv0x.out h.u h.low))
                            | (go_at_call 7; with_reducible exact call_low h (BDv0x.out h.u h.low))
                            | (go_at_call 9; with_reducible exact call_low h (FG1x.out h.u h.low))
                            | (go_at_call 11; with_reducible exact call_low h (CAv2x.out h.u h.low))
                            | (go_at_call 9; with_reducible exact call_low h (BDv1x.out h.u h.low))
                            | (go_at_call 11; with_reducible exact call_low h (FG2x.out h.u h.low))
                            | (go_at_call 9; with_reducible exact call_low h (CAv1x.out h.u h.low))
                            | (go_at_call 11; with_reducible exact call_low h (BDv2x.out h.u h.low))
                            | (go_at_call 13; with_reducible exact call_low h (CWvx.out h.u h.low))
                        go_big_quiet_on))
            refine wpQuiet_nil ?_
            rintro w9 ⟨⟨_, E⟩, rfl⟩
            go_wp2_with fail
            go_ret
            exact ⟨rfl, HBX.out.trans ((HB16.out.trans (E.mono HB16.out.size)).mono HBX.out.size)⟩
  · have HBX := HB13
    rw [Ty.bel_off (.inl hf)] at FG1
    rw [Ty.bel_off (.inl hf)] at FG2
    have hc : (((Ty.chk 3 (Ty.two k kids k' kids') : Nat) : Int) != 0) = true := by simp; omega
    generalize Ty.chk 3 (Ty.two k kids k' kids') = CFV at *
    clear hf
    clear HCC
    clear HB13
    have HB13 := HBB
    obtain ⟨f0, f1, _, _, hfl⟩ := own2 HF13.out
    go_wp2_with fail
    refine (KCF.out _ HB13.out).mono ?_
    rintro e w14 ⟨rfl, hb⟩
    have HB14 := Lib.hid (HB13.out.trans (hb.mono HB13.out.size))
    have HF14 := Lib.hid (heap_below hb (heap_lt HF13.out) HF13.out)
    have HG14 := Lib.hid (heap_below hb (heap_lt HG13.out) HG13.out)
    clear hb f0 f1 hfl
    obtain ⟨f0, f1, _, _, hfl⟩ := own2 HF14.out
    obtain ⟨g0, g1, _, _, hgl⟩ := own2 HG14.out
    go_wp2_with fail
    refine (FG1.out _ HB14.out).mono ?_
    rintro e w15 ⟨rfl, hb⟩
    have HB15 := Lib.hid (HB14.out.trans (hb.mono HB14.out.size))
    have HF15 := Lib.hid (heap_below hb (heap_lt HF14.out) HF14.out)
    have HG15 := Lib.hid (heap_below hb (heap_lt HG14.out) HG14.out)
    clear hb f0 f1 hfl g0 g1 hgl
    obtain ⟨f0, f1, _, _, hfl⟩ := own2 HF15.out
    obtain ⟨g0, g1, _, _, hgl⟩ := own2 HG15.out
    go_wp2_with fail
    refine (FG2.out _ HB15.out).mono ?_
    rintro e w16 ⟨rfl, hb⟩
    have HB16 := Lib.hid (HB15.out.trans (hb.mono HB15.out.size))
    have HF16 := Lib.hid (heap_below hb (heap_lt HF15.out) HF15.out)
    have HG16 := Lib.hid (heap_below hb (heap_lt HG15.out) HG15.out)
    clear hb f0 f1 hfl g0 g1 hgl
    go_wp2_with fail
    refine (CWv.out _ HB16.out).mono ?_
    rintro e w17 ⟨rfl, hb⟩
    go_wp2_with fail
    go_ret
    exact ⟨rfl, HBX.out.trans ((HB16.out.trans (hb.mono HB16.out.size)).mono HBX.out.size)⟩
  · have HBX := HB13
    rw [Ty.bel_off (.inr hg)] at FG1
    rw [Ty.bel_off (.inr hg)] at FG2
    rw [hf] at KCF
    have hc : (((Ty.chk 3 (Ty.two k'' kids'' k3 kids3) : Nat) : Int) != 0) = true := by simp; omega
    generalize Ty.chk 3 (Ty.two k'' kids'' k3 kids3) = CGV at *
    clear hf hg
    clear HCC
    clear HB13
    have HB13 := HBB
    obtain ⟨f0, f1, _, _, hfl⟩ := own2 HF13.out
    go_wp2_with fail
    refine (KCF.out _ HB13.out).mono ?_
    rintro e w14 ⟨rfl, hb⟩
    have HB14 := Lib.hid (HB13.out.trans (hb.mono HB13.out.size))
    have HF14 := Lib.hid (heap_below hb (heap_lt HF13.out) HF13.out)
    have HG14 := Lib.hid (heap_below hb (heap_lt HG13.out) HG13.out)
    clear hb f0 f1 hfl
    obtain ⟨g0, g1, _, _, hgl⟩ := own2 HG14.out
    go_wp2_with fail
    refine (KCG.out _ HB14.out).mono ?_
    rintro e w15 ⟨rfl, hb⟩
    have HB15 := Lib.hid (HB14.out.trans (hb.mono HB14.out.size))
    have HF15 := Lib.hid (heap_below hb (heap_lt HF14.out) HF14.out)
    have HG15 := Lib.hid (heap_below hb (heap_lt HG14.out) HG14.out)
    clear hb g0 g1 hgl
    obtain ⟨f0, f1, _, _, hfl⟩ := own2 HF15.out
    obtain ⟨g0, g1, _, _, hgl⟩ := own2 HG15.out
    go_wp2_with fail
    refine (FG1.out _ HB15.out).mono ?_
    rintro e w16 ⟨rfl, hb⟩
    have HB16 := Lib.hid (HB15.out.trans (hb.mono HB15.out.size))
    have HF16 := Lib.hid (heap_below hb (heap_lt HF15.out) HF15.out)
    have HG16 := Lib.hid (heap_below hb (heap_lt HG15.out) HG15.out)
    clear hb f0 f1 hfl g0 g1 hgl
    obtain ⟨f0, f1, _, _, hfl⟩ := own2 HF16.out
    obtain ⟨g0, g1, _, _, hgl⟩ := own2 HG16.out
    go_wp2_with fail
    refine (FG2.out _ HB16.out).mono ?_
    rintro e w17 ⟨rfl, hb⟩
    have HB17 := Lib.hid (HB16.out.trans (hb.mono HB16.out.size))
    have HF17 := Lib.hid (heap_below hb (heap_lt HF16.out) HF16.out)
    have HG17 := Lib.hid (heap_below hb (heap_lt HG16.out) HG16.out)
    clear hb f0 f1 hfl g0 g1 hgl
    go_wp2_with fail
    refine (CWv.out _ HB17.out).mono ?_
    rintro e w18 ⟨rfl, hb⟩
    go_wp2_with fail
    go_ret
    exact ⟨rfl, HBX.out.trans ((HB17.out.trans (hb.mono HB17.out.size)).mono HBX.out.size)⟩
end Go.Proofs.YtdeomggkhbdkaaaDoor
