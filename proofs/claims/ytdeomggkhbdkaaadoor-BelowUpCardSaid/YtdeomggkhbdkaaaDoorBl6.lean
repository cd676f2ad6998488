/-
  Layer 8: what the document says of a few types.
-/
import Derived.Test.YtdeomggkhbdkaaaDoorBl5
import Derived.Deep.DeepCutAuto
namespace Go.Proofs.YtdeomggkhbdkaaaDoor
open Go.RowKit

theorem is_two8 {w : World} {N : Nat} {kd k k' : Int} {t : TypeId} (h1 : -128 ≤ kd) (h2 : kd ≤ 127) (hk : -128 ≤ k ∧ k ≤ 127) (hk' : -128 ≤ k' ∧ k' ≤ 127) (h : w.heap[N]? = some (.cells #[.int .i8 k, .slice none 0 0, .int .i8 k', .slice none 0 0] t (0, 0))) :
    Ty.Is w kd (Ty.two k .nil k' .nil) (some ⟨N, 0, none⟩) 2 2 :=
  ⟨Ty.lies_two h ⟨trivial, rfl, Nat.le_refl _, Nat.zero_le _, hk.1, hk.2⟩ ⟨trivial, rfl, Nat.le_refl _, Nat.zero_le _, hk'.1, hk'.2⟩, rfl, Nat.le_refl _, by unfold maxLen; omega, h1, h2⟩
set_option maxHeartbeats 8000000 in
set_option maxRecDepth 100000 in
theorem wakes8_any (w : World) (hS : Shapes w) :
    Calls Tryd.prog 13 #[] w fun e w' => e = .returned (.bool true) ∧ Below w.heap.size w w' := by
  obtain ⟨r0, r1, -⟩ := two_new w (.cells #[.int .i8 1, .slice none 0 0] 25) (.cells #[.int .i8 0, .slice none 0 0] 25)
  have hb1 := tell_boxes w (.cells #[.int .i8 1, .slice none 0 0] 25) (.cells #[.int .i8 0, .slice none 0 0] 25)
  generalize hw1 : (w.alloc (.cells #[.int .i8 1, .slice none 0 0] 25)).alloc (.cells #[.int .i8 0, .slice none 0 0] 25) = w1 at *
  have HW1 := Lib.hid hw1
  have HB1 := Lib.hid hb1
  have HX1 := Lib.hid r0
  have HY1 := Lib.hid r1
  have CIO := Lib.hid (fun (u : World) (hb : Below w.heap.size w u) => (show Calls Tryd.prog 7 #[.agg #[.int .i8 1, .slice none 0 0], .agg #[.int .i8 0, .slice none 0 0]] u (fun e w' => e = .returned (.bool true) ∧ Below u.heap.size u w') from below0_any 1 .nil none 0 0 0 .nil none 0 0 u ⟨trivial, rfl, Nat.le_refl _, Nat.zero_le _, by decide, by decide⟩ ⟨trivial, rfl, Nat.le_refl _, Nat.zero_le _, by decide, by decide⟩ (hS.below hb)))
  have COI := Lib.hid (fun (u : World) (hb : Below w.heap.size w u) => (show Calls Tryd.prog 7 #[.agg #[.int .i8 0, .slice none 0 0], .agg #[.int .i8 1, .slice none 0 0]] u (fun e w' => e = .returned (.bool false) ∧ Below u.heap.size u w') from below0_any 0 .nil none 0 0 1 .nil none 0 0 u ⟨trivial, rfl, Nat.le_refl _, Nat.zero_le _, by decide, by decide⟩ ⟨trivial, rfl, Nat.le_refl _, Nat.zero_le _, by decide, by decide⟩ (hS.below hb)))
  have NOI := Lib.hid (fun (u : World) (hb : Below w.heap.size w u) => (show Calls Tryd.prog 11 #[.agg #[.int .i8 0, .slice none 0 0], .agg #[.int .i8 1, .slice none 0 0]] u (fun e w' => e = .returned (.bool true) ∧ Below u.heap.size u w') from below2_any 0 .nil none 0 0 1 .nil none 0 0 u ⟨trivial, rfl, Nat.le_refl _, Nat.zero_le _, by decide, by decide⟩ ⟨trivial, rfl, Nat.le_refl _, Nat.zero_le _, by decide, by decide⟩ (hS.below hb)))
  have POI := Lib.hid (fun (u : World) (hb : Below w.heap.size w u) => (show Calls Tryd.prog 9 #[.agg #[.int .i8 0, .slice none 0 0], .agg #[.int .i8 1, .slice none 0 0]] u (fun e w' => e = .returned (.bool false) ∧ Below u.heap.size u w') from below1_any 0 .nil none 0 0 1 .nil none 0 0 u ⟨trivial, rfl, Nat.le_refl _, Nat.zero_le _, by decide, by decide⟩ ⟨trivial, rfl, Nat.le_refl _, Nat.zero_le _, by decide, by decide⟩ (hS.below hb)))
  have PFG := Lib.hid (fun (N M : Nat) (u : World) (hb : Below w.heap.size w u) (hN : Ty.Is u 3 (Ty.two 1 .nil 1 .nil) (some ⟨N, 0, none⟩) 2 2) (hM : Ty.Is u 3 (Ty.two 0 .nil 1 .nil) (some ⟨M, 0, none⟩) 2 2) => (show Calls Tryd.prog 9 #[.agg #[.int .i8 3, .slice (some ⟨N, 0, none⟩) 2 2], .agg #[.int .i8 3, .slice (some ⟨M, 0, none⟩) 2 2]] u (fun e w' => e = .returned (.bool true) ∧ Below u.heap.size u w') from below1_any 3 (Ty.two 1 .nil 1 .nil) _ 2 2 3 (Ty.two 0 .nil 1 .nil) _ 2 2 u hN hM (hS.below hb)))
  have NFG := Lib.hid (fun (N M : Nat) (u : World) (hb : Below w.heap.size w u) (hN : Ty.Is u 3 (Ty.two 1 .nil 1 .nil) (some ⟨N, 0, none⟩) 2 2) (hM : Ty.Is u 3 (Ty.two 0 .nil 1 .nil) (some ⟨M, 0, none⟩) 2 2) => (show Calls Tryd.prog 11 #[.agg #[.int .i8 3, .slice (some ⟨N, 0, none⟩) 2 2], .agg #[.int .i8 3, .slice (some ⟨M, 0, none⟩) 2 2]] u (fun e w' => e = .returned (.bool false) ∧ Below u.heap.size u w') from below2_any 3 (Ty.two 1 .nil 1 .nil) _ 2 2 3 (Ty.two 0 .nil 1 .nil) _ 2 2 u hN hM (hS.below hb)))
  have BGF := Lib.hid (fun (N M : Nat) (u : World) (hb : Below w.heap.size w u) (hN : Ty.Is u 3 (Ty.two 1 .nil 1 .nil) (some ⟨N, 0, none⟩) 2 2) (hM : Ty.Is u 3 (Ty.two 0 .nil 1 .nil) (some ⟨M, 0, none⟩) 2 2) => (show Calls Tryd.prog 7 #[.agg #[.int .i8 3, .slice (some ⟨M, 0, none⟩) 2 2], .agg #[.int .i8 3, .slice (some ⟨N, 0, none⟩) 2 2]] u (fun e w' => e = .returned (.bool true) ∧ Below u.heap.size u w') from below0_any 3 (Ty.two 0 .nil 1 .nil) _ 2 2 3 (Ty.two 1 .nil 1 .nil) _ 2 2 u hM hN (hS.below hb)))
  clear hw1 hb1 r0 r1 hS
  obtain ⟨x0, x1, _, _, hxl⟩ := own2 HX1.out
  go_enter Tryd.func13, Tryd.ntmps13
  go_upto_region 3 with fail
  rw [HW1.out]
  go_wp2_with fail
  refine (of_raw 3 1 none 0 0 1 none 0 0 _).mono ?_
  rintro e w2 ⟨N, rfl, -, hcs, hb⟩
  have HN2 := Lib.hid hcs
  have HB2 := Lib.hid (HB1.out.trans (hb.mono HB1.out.size))
  have HX2 := Lib.hid (heap_below hb (heap_lt HX1.out) HX1.out)
  have HY2 := Lib.hid (heap_below hb (heap_lt HY1.out) HY1.out)
  clear hcs hb x0 x1 hxl
  have hbn : Below w2.heap.size w2 (w2.alloc (.cells #[.int .i8 3, .slice (some ⟨N, 0, none⟩) 2 2] 25)) := (Below.refl _ _).alloc (Nat.le_refl _) _
  have HB3 := Lib.hid (HB2.out.trans (hbn.mono HB2.out.size))
  have HX3 := Lib.hid (heap_below hbn (heap_lt HX2.out) HX2.out)
  have HY3 := Lib.hid (heap_below hbn (heap_lt HY2.out) HY2.out)
  have HN3 := Lib.hid (heap_below hbn (heap_lt HN2.out) HN2.out)
  have HF3 := Lib.hid (heap_new w2 (.cells #[.int .i8 3, .slice (some ⟨N, 0, none⟩) 2 2] 25))
  clear hbn
  go_upto_region 4 with fail
  generalize w2.alloc (.cells #[.int .i8 3, .slice (some ⟨N, 0, none⟩) 2 2] 25) = w3 at *
  obtain ⟨x0, x1, _, _, hxl⟩ := own2 HX3.out
  obtain ⟨y0, y1, _, _, hyl⟩ := own2 HY3.out
  go_wp2_with fail
  refine (of_raw 3 0 none 0 0 1 none 0 0 _).mono ?_
  rintro e w4 ⟨M, rfl, -, hcs, hb⟩
  have HM4 := Lib.hid hcs
  clear hcs
  have HB4 := Lib.hid (HB3.out.trans (hb.mono HB3.out.size))
  have HX4 := Lib.hid (heap_below hb (heap_lt HX3.out) HX3.out)
  have HY4 := Lib.hid (heap_below hb (heap_lt HY3.out) HY3.out)
  have HN4 := Lib.hid (heap_below hb (heap_lt HN3.out) HN3.out)
  have HF4 := Lib.hid (heap_below hb (heap_lt HF3.out) HF3.out)
  clear hb x0 x1 hxl y0 y1 hyl
  have hbn : Below w4.heap.size w4 (w4.alloc (.cells #[.int .i8 3, .slice (some ⟨M, 0, none⟩) 2 2] 25)) := (Below.refl _ _).alloc (Nat.le_refl _) _
  have HB5 := Lib.hid (HB4.out.trans (hbn.mono HB4.out.size))
  have HX5 := Lib.hid (heap_below hbn (heap_lt HX4.out) HX4.out)
  have HY5 := Lib.hid (heap_below hbn (heap_lt HY4.out) HY4.out)
  have HN5 := Lib.hid (heap_below hbn (heap_lt HN4.out) HN4.out)
  have HF5 := Lib.hid (heap_below hbn (heap_lt HF4.out) HF4.out)
  have HM5 := Lib.hid (heap_below hbn (heap_lt HM4.out) HM4.out)
  have HG5 := Lib.hid (heap_new w4 (.cells #[.int .i8 3, .slice (some ⟨M, 0, none⟩) 2 2] 25))
  clear hbn
  go_upto_region 5 with fail
  generalize w4.alloc (.cells #[.int .i8 3, .slice (some ⟨M, 0, none⟩) 2 2] 25) = w5 at *
  obtain ⟨x0, x1, _, _, hxl⟩ := own2 HX5.out
  obtain ⟨y0, y1, _, _, hyl⟩ := own2 HY5.out
  go_wp2_with fail
  refine (CIO.out _ HB5.out).mono ?_
  rintro e w6 ⟨rfl, hb⟩
  have HB6 := Lib.hid (HB5.out.trans (hb.mono HB5.out.size))
  have HX6 := Lib.hid (heap_below hb (heap_lt HX5.out) HX5.out)
  have HY6 := Lib.hid (heap_below hb (heap_lt HY5.out) HY5.out)
  have HN6 := Lib.hid (heap_below hb (heap_lt HN5.out) HN5.out)
  have HF6 := Lib.hid (heap_below hb (heap_lt HF5.out) HF5.out)
  have HM6 := Lib.hid (heap_below hb (heap_lt HM5.out) HM5.out)
  have HG6 := Lib.hid (heap_below hb (heap_lt HG5.out) HG5.out)
  clear hb x0 x1 hxl y0 y1 hyl
  obtain ⟨x0, x1, _, _, hxl⟩ := own2 HX6.out
  obtain ⟨y0, y1, _, _, hyl⟩ := own2 HY6.out
  go_wp2_with fail
  refine (COI.out _ HB6.out).mono ?_
  rintro e w7 ⟨rfl, hb⟩
  have HB7 := Lib.hid (HB6.out.trans (hb.mono HB6.out.size))
  have HX7 := Lib.hid (heap_below hb (heap_lt HX6.out) HX6.out)
  have HY7 := Lib.hid (heap_below hb (heap_lt HY6.out) HY6.out)
  have HN7 := Lib.hid (heap_below hb (heap_lt HN6.out) HN6.out)
  have HF7 := Lib.hid (heap_below hb (heap_lt HF6.out) HF6.out)
  have HM7 := Lib.hid (heap_below hb (heap_lt HM6.out) HM6.out)
  have HG7 := Lib.hid (heap_below hb (heap_lt HG6.out) HG6.out)
  clear hb x0 x1 hxl y0 y1 hyl
  obtain ⟨x0, x1, _, _, hxl⟩ := own2 HX7.out
  obtain ⟨y0, y1, _, _, hyl⟩ := own2 HY7.out
  go_wp2_with fail
  refine (NOI.out _ HB7.out).mono ?_
  rintro e w8 ⟨rfl, hb⟩
  have HB8 := Lib.hid (HB7.out.trans (hb.mono HB7.out.size))
  have HX8 := Lib.hid (heap_below hb (heap_lt HX7.out) HX7.out)
  have HY8 := Lib.hid (heap_below hb (heap_lt HY7.out) HY7.out)
  have HN8 := Lib.hid (heap_below hb (heap_lt HN7.out) HN7.out)
  have HF8 := Lib.hid (heap_below hb (heap_lt HF7.out) HF7.out)
  have HM8 := Lib.hid (heap_below hb (heap_lt HM7.out) HM7.out)
  have HG8 := Lib.hid (heap_below hb (heap_lt HG7.out) HG7.out)
  clear hb x0 x1 hxl y0 y1 hyl
  obtain ⟨x0, x1, _, _, hxl⟩ := own2 HX8.out
  obtain ⟨y0, y1, _, _, hyl⟩ := own2 HY8.out
  go_wp2_with fail
  refine (POI.out _ HB8.out).mono ?_
  rintro e w9 ⟨rfl, hb⟩
  have HB9 := Lib.hid (HB8.out.trans (hb.mono HB8.out.size))
  have HX9 := Lib.hid (heap_below hb (heap_lt HX8.out) HX8.out)
  have HY9 := Lib.hid (heap_below hb (heap_lt HY8.out) HY8.out)
  have HN9 := Lib.hid (heap_below hb (heap_lt HN8.out) HN8.out)
  have HF9 := Lib.hid (heap_below hb (heap_lt HF8.out) HF8.out)
  have HM9 := Lib.hid (heap_below hb (heap_lt HM8.out) HM8.out)
  have HG9 := Lib.hid (heap_below hb (heap_lt HG8.out) HG8.out)
  clear hb x0 x1 hxl y0 y1 hyl
  obtain ⟨f0, f1, _, _, hfl⟩ := own2 HF9.out
  obtain ⟨g0, g1, _, _, hgl⟩ := own2 HG9.out
  go_wp2_with fail
  refine (PFG.out N M _ HB9.out (is_two8 (by omega) (by omega) (by omega) (by omega) HN9.out) (is_two8 (by omega) (by omega) (by omega) (by omega) HM9.out)).mono ?_
  rintro e w10 ⟨rfl, hb⟩
  have HB10 := Lib.hid (HB9.out.trans (hb.mono HB9.out.size))
  have HX10 := Lib.hid (heap_below hb (heap_lt HX9.out) HX9.out)
  have HY10 := Lib.hid (heap_below hb (heap_lt HY9.out) HY9.out)
  have HN10 := Lib.hid (heap_below hb (heap_lt HN9.out) HN9.out)
  have HF10 := Lib.hid (heap_below hb (heap_lt HF9.out) HF9.out)
  have HM10 := Lib.hid (heap_below hb (heap_lt HM9.out) HM9.out)
  have HG10 := Lib.hid (heap_below hb (heap_lt HG9.out) HG9.out)
  clear hb f0 f1 hfl g0 g1 hgl
  obtain ⟨f0, f1, _, _, hfl⟩ := own2 HF10.out
  obtain ⟨g0, g1, _, _, hgl⟩ := own2 HG10.out
  go_wp2_with fail
  refine (NFG.out N M _ HB10.out (is_two8 (by omega) (by omega) (by omega) (by omega) HN10.out) (is_two8 (by omega) (by omega) (by omega) (by omega) HM10.out)).mono ?_
  rintro e w11 ⟨rfl, hb⟩
  have HB11 := Lib.hid (HB10.out.trans (hb.mono HB10.out.size))
  have HX11 := Lib.hid (heap_below hb (heap_lt HX10.out) HX10.out)
  have HY11 := Lib.hid (heap_below hb (heap_lt HY10.out) HY10.out)
  have HN11 := Lib.hid (heap_below hb (heap_lt HN10.out) HN10.out)
  have HF11 := Lib.hid (heap_below hb (heap_lt HF10.out) HF10.out)
  have HM11 := Lib.hid (heap_below hb (heap_lt HM10.out) HM10.out)
  have HG11 := Lib.hid (heap_below hb (heap_lt HG10.out) HG10.out)
  clear hb f0 f1 hfl g0 g1 hgl
  obtain ⟨f0, f1, _, _, hfl⟩ := own2 HF11.out
  obtain ⟨g0, g1, _, _, hgl⟩ := own2 HG11.out
  go_wp2_with fail
  refine (BGF.out N M _ HB11.out (is_two8 (by omega) (by omega) (by omega) (by omega) HN11.out) (is_two8 (by omega) (by omega) (by omega) (by omega) HM11.out)).mono ?_
  rintro e w12 ⟨rfl, hb⟩
  have HB12 := Lib.hid (HB11.out.trans (hb.mono HB11.out.size))
  have HX12 := Lib.hid (heap_below hb (heap_lt HX11.out) HX11.out)
  have HY12 := Lib.hid (heap_below hb (heap_lt HY11.out) HY11.out)
  have HN12 := Lib.hid (heap_below hb (heap_lt HN11.out) HN11.out)
  have HF12 := Lib.hid (heap_below hb (heap_lt HF11.out) HF11.out)
  have HM12 := Lib.hid (heap_below hb (heap_lt HM11.out) HM11.out)
  have HG12 := Lib.hid (heap_below hb (heap_lt HG11.out) HG11.out)
  clear hb f0 f1 hfl g0 g1 hgl
  go_wp2_with fail
  go_ret
  exact ⟨rfl, HB12.out⟩
end Go.Proofs.YtdeomggkhbdkaaaDoor
