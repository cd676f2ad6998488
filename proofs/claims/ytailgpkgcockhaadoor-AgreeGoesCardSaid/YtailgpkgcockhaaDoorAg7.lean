/-
  Layer 6: what the document says of a few types.
-/
import Derived.Test.YtailgpkgcockhaaDoorAg6
import Derived.Deep.RegionHeld3
namespace Go.Proofs.YtailgpkgcockhaaDoor
open Go.RowKit

theorem is_two {w : World} {N : Nat} {kd k k' : Int} {t : TypeId} (h1 : -128 ≤ kd) (h2 : kd ≤ 127) (hk : -128 ≤ k ∧ k ≤ 127) (hk' : -128 ≤ k' ∧ k' ≤ 127) (h : w.heap[N]? = some (.cells #[.int .i8 k, .slice none 0 0, .int .i8 k', .slice none 0 0] t (0, 0))) :
    Ty.Is w kd (Ty.two k .nil k' .nil) (some ⟨N, 0, none⟩) 2 2 :=
  ⟨Ty.lies_two h ⟨trivial, rfl, Nat.le_refl _, Nat.zero_le _, hk.1, hk.2⟩ ⟨trivial, rfl, Nat.le_refl _, Nat.zero_le _, hk'.1, hk'.2⟩, rfl, Nat.le_refl _, by unfold maxLen; omega, h1, h2⟩
theorem keep8 {wb w2 : World} {X I Y L R : Nat} {v0 v1 v2 v3 v4 v5 v6 v7 : Value} (h0 : wb.cell? ⟨X, 0, none⟩ = some v0) (h1 : wb.cell? ⟨X, 1, none⟩ = some v1) (h2 : wb.cell? ⟨I, 0, none⟩ = some v2) (h3 : wb.cell? ⟨I, 1, none⟩ = some v3) (h4 : wb.cell? ⟨Y, 0, none⟩ = some v4) (h5 : wb.cell? ⟨Y, 1, none⟩ = some v5) (h6 : wb.cell? ⟨L, 0, none⟩ = some v6) (h7 : wb.cell? ⟨R, 0, none⟩ = some v7) (hb : Below wb.heap.size wb w2) :
    w2.cell? ⟨X, 0, none⟩ = some v0 ∧ w2.cell? ⟨X, 1, none⟩ = some v1 ∧ w2.cell? ⟨I, 0, none⟩ = some v2 ∧ w2.cell? ⟨I, 1, none⟩ = some v3 ∧ w2.cell? ⟨Y, 0, none⟩ = some v4 ∧ w2.cell? ⟨Y, 1, none⟩ = some v5 ∧ w2.cell? ⟨L, 0, none⟩ = some v6 ∧ w2.cell? ⟨R, 0, none⟩ = some v7 :=
  ⟨keepAt' h0 hb, keepAt' h1 hb, keepAt' h2 hb, keepAt' h3 hb, keepAt' h4 hb, keepAt' h5 hb, keepAt' h6 hb, keepAt' h7 hb⟩

set_option maxHeartbeats 4000000 in
set_option maxRecDepth 100000 in
theorem wakes6_any (w : World) (hS : Shapes w) :
    Calls Tryd.prog 5 #[] w fun e w' => e = .returned (.bool true) ∧ Below w.heap.size w w' := by
  have hB0 : Below w.heap.size w (((w.alloc (.cells #[.int .i8 1, .slice none 0 0] 25)).alloc (.cells #[.int .i8 2, .slice none 0 0] 25)).alloc (.cells #[.int .i8 0, .slice none 0 0] 25)) := (((Below.refl _ _).alloc (Nat.le_refl _) _).alloc (by simp) _).alloc (by simp; omega) _
  obtain ⟨r0, r1, r2⟩ := two_new w (.cells #[.int .i8 1, .slice none 0 0] 25) (.cells #[.int .i8 2, .slice none 0 0] 25)
  have h0 := heap_old r0 (.cells #[.int .i8 0, .slice none 0 0] 25)
  have h1 := heap_old r1 (.cells #[.int .i8 0, .slice none 0 0] 25)
  have h2 := heap_new ((w.alloc (.cells #[.int .i8 1, .slice none 0 0] 25)).alloc (.cells #[.int .i8 2, .slice none 0 0] 25)) (.cells #[.int .i8 0, .slice none 0 0] 25)
  rw [r2] at h2
  have hsz : (((w.alloc (.cells #[.int .i8 1, .slice none 0 0] 25)).alloc (.cells #[.int .i8 2, .slice none 0 0] 25)).alloc (.cells #[.int .i8 0, .slice none 0 0] 25)).heap.size = w.heap.size + 3 := by simp
  generalize hw1 : (((w.alloc (.cells #[.int .i8 1, .slice none 0 0] 25)).alloc (.cells #[.int .i8 2, .slice none 0 0] 25)).alloc (.cells #[.int .i8 0, .slice none 0 0] 25)) = w1 at *
  have HW1 := Lib.hid hw1
  have HB0 := Lib.hid hB0
  have H0 := Lib.hid h0
  have H1 := Lib.hid h1
  have H2 := Lib.hid h2
  have HSZ := Lib.hid hsz
  have CAS := Lib.hid (fun (N : Nat) (W : World) (hb : Below w.heap.size w W) (h : Ty.Is W 3 (Ty.two 1 .nil 0 .nil) (some ⟨N, 0, none⟩) 2 2) => (show Calls Tryd.prog 12 #[.int .i8 3, .agg #[.int .i8 3, .slice (some ⟨N, 0, none⟩) 2 2]] W (AsPost W true (1, .nil) (0, .nil)) from by
    have q := as_any 3 3 (Ty.two 1 .nil 0 .nil) (some ⟨N, 0, none⟩) 2 2 W h (hS.below hb)
    obtain ⟨e1, e2, e3⟩ := Ty.as_yes (a := 0) (b := 0) (c := 0) (d := 0) (kd := 3) (k1 := 1) (k2 := 0) (f1 := .nil) (f2 := .nil) (by omega) (by omega) (by decide)
    unfold Ty.two at q
    rw [e1, e2, e3] at q
    exact q))
  have CAI := Lib.hid (fun (W : World) (hb : Below w.heap.size w W) => (show Calls Tryd.prog 12 #[.int .i8 4, .agg #[.int .i8 1, .slice none 0 0]] W (AsPost W false (0, .nil) (0, .nil)) from by
    have q := as_any 4 1 .nil none 0 0 W ⟨trivial, rfl, Nat.le_refl _, Nat.zero_le _, by omega, by omega⟩ (hS.below hb)
    have e : Ty.asOk 4 1 .nil = false := by decide
    obtain ⟨e2, e3⟩ := Ty.as_no e
    rw [e, e2, e3] at q
    exact q))
  have CG1 := Lib.hid (fun (N M : Nat) (W : World) (hb : Below w.heap.size w W) (h : Ty.Is W 3 (Ty.two 1 .nil 0 .nil) (some ⟨N, 0, none⟩) 2 2) (h' : Ty.Is W 3 (Ty.two 0 .nil 2 .nil) (some ⟨M, 0, none⟩) 2 2) => (show Calls Tryd.prog 7 #[.agg #[.int .i8 3, .slice (some ⟨N, 0, none⟩) 2 2], .agg #[.int .i8 3, .slice (some ⟨M, 0, none⟩) 2 2]] W (fun e w' => e = .returned (.bool true) ∧ Below W.heap.size W w') from agree_any 3 _ _ 2 2 3 _ _ 2 2 W h h' (hS.below hb)))
  have CG2 := Lib.hid (fun (W : World) (hb : Below w.heap.size w W) => (show Calls Tryd.prog 7 #[.agg #[.int .i8 1, .slice none 0 0], .agg #[.int .i8 2, .slice none 0 0]] W (fun e w' => e = .returned (.bool false) ∧ Below W.heap.size W w') from agree_any 1 .nil none 0 0 2 .nil none 0 0 W ⟨trivial, rfl, Nat.le_refl _, Nat.zero_le _, by omega, by omega⟩ ⟨trivial, rfl, Nat.le_refl _, Nat.zero_le _, by omega, by omega⟩ (hS.below hb)))
  obtain ⟨b0, b1, _, _, hb0⟩ := own2 h0
  obtain ⟨d0, d1, _, _, hd0⟩ := own2 h2
  clear r0 r1 r2 h0 h1 h2 hw1 hB0 hS hsz
  go_enter Tryd.func5, Tryd.ntmps5
  go_upto_region 4 with fail
  rw [HW1.out]
  go_wp2_with fail
  refine (of_raw 3 1 none 0 0 0 none 0 0 _).mono ?_
  rintro e w2 ⟨N, rfl, hN, hcs, hb⟩
  have HB2 := Lib.hid (HB0.out.trans (hb.mono HB0.out.size))
  have HIN := Lib.hid (is_two (kd := 3) (by omega) (by omega) (by omega) (by omega) hcs)
  have HX2 := Lib.hid (heap_below hb (heap_lt H0.out) H0.out)
  have HI2 := Lib.hid (heap_below hb (heap_lt H1.out) H1.out)
  have HY2 := Lib.hid (heap_below hb (heap_lt H2.out) H2.out)
  clear hN hcs hb b0 b1 d0 d1 hb0 hd0
  go_wp2_with fail
  refine (CAS.out N _ HB2.out HIN.out).mono ?_
  rintro e w3 ⟨G1, m1, c1, G2, m2, c2, rfl, -, -, hb⟩
  have HB3 := Lib.hid (HB2.out.trans (hb.mono HB2.out.size))
  have HX3 := Lib.hid (heap_below hb (heap_lt HX2.out) HX2.out)
  have HI3 := Lib.hid (heap_below hb (heap_lt HI2.out) HI2.out)
  have HY3 := Lib.hid (heap_below hb (heap_lt HY2.out) HY2.out)
  clear hb HIN HX2 HI2 HY2 HB2
  obtain ⟨b0, b1, _, _, hb0⟩ := own2 HX3.out
  go_upto_region 5 with fail
  obtain ⟨hl4, hr4, hs4⟩ := two_new w3 (.cells #[.int .i8 1, .slice G1 m1 c1] 25) (.cells #[.int .i8 0, .slice G2 m2 c2] 25)
  have hb4 : Below w3.heap.size w3 ((w3.alloc (.cells #[.int .i8 1, .slice G1 m1 c1] 25)).alloc (.cells #[.int .i8 0, .slice G2 m2 c2] 25)) := ((Below.refl _ _).alloc (Nat.le_refl _) _).alloc (by simp) _
  have HB4 := Lib.hid (HB3.out.trans (hb4.mono HB3.out.size))
  have HX4 := Lib.hid (heap_below hb4 (heap_lt HX3.out) HX3.out)
  have HI4 := Lib.hid (heap_below hb4 (heap_lt HI3.out) HI3.out)
  have HY4 := Lib.hid (heap_below hb4 (heap_lt HY3.out) HY3.out)
  have HL4 := Lib.hid hl4
  have HR4 := Lib.hid hr4
  clear hb4 hl4 hr4 hs4 b0 b1 hb0 HX3 HI3 HY3
  generalize (w3.alloc (.cells #[.int .i8 1, .slice G1 m1 c1] 25)).alloc (.cells #[.int .i8 0, .slice G2 m2 c2] 25) = w4 at *
  obtain ⟨b0, b1, _, _, hb0⟩ := own2 HX4.out
  go_wp2_with fail
  refine (CAI.out _ HB4.out).mono ?_
  rintro e w5 ⟨G3, m3, c3, G4, m4, c4, rfl, -, -, hb⟩
  have hb5 : Below w5.heap.size w5 ((w5.alloc (.cells #[.int .i8 0, .slice G3 m3 c3] 25)).alloc (.cells #[.int .i8 0, .slice G4 m4 c4] 25)) := ((Below.refl _ _).alloc (Nat.le_refl _) _).alloc (by simp) _
  have hb6 := hb.trans (hb5.mono hb.size)
  have HB6 := Lib.hid (HB4.out.trans (hb6.mono HB4.out.size))
  have HX6 := Lib.hid (heap_below hb6 (heap_lt HX4.out) HX4.out)
  have HI6 := Lib.hid (heap_below hb6 (heap_lt HI4.out) HI4.out)
  have HY6 := Lib.hid (heap_below hb6 (heap_lt HY4.out) HY4.out)
  have HL6 := Lib.hid (heap_below hb6 (heap_lt HL4.out) HL4.out)
  have HR6 := Lib.hid (heap_below hb6 (heap_lt HR4.out) HR4.out)
  clear hb5 hb6 hb b0 b1 hb0 HX4 HI4 HY4 HL4 HR4
  go_upto_region 6 with fail
  generalize (w5.alloc (.cells #[.int .i8 0, .slice G3 m3 c3] 25)).alloc (.cells #[.int .i8 0, .slice G4 m4 c4] 25) = wb at *
  obtain ⟨x0, x1, _, _, hx⟩ := own2 HX6.out
  obtain ⟨i0, i1, _, _, hi⟩ := own2 HI6.out
  obtain ⟨y0, y1, _, _, hy⟩ := own2 HY6.out
  obtain ⟨l0, _, _, _, hl⟩ := own2 HL6.out
  obtain ⟨r0, _, _, _, hr⟩ := own2 HR6.out
  clear HX6 HI6 HY6 HL6 HR6
  have hnot : ∀ (x : Bool) (w : World), (Op.unary .not (.bool x)).run Tryd.prog w = .ok (.bool (!x)) w := fun _ _ => rfl
  have D0 : Below wb.heap.size wb wb.drew := (Below.refl _ _).drew
  have C1 := Lib.hid (fun (N M : Nat) (W : World) (hb : Below wb.heap.size wb W) => CG1.out N M W (HB6.out.trans (hb.mono HB6.out.size)))
  have C2 := Lib.hid (fun (W : World) (hb : Below wb.heap.size wb W) => CG2.out W (HB6.out.trans (hb.mono HB6.out.size)))
  clear CG1 CG2 CAS CAI
  go_region_held3 (fun w' => w'.cell? ⟨w.heap.size, 0, none⟩ = some (.int .i8 1) ∧ w'.cell? ⟨w.heap.size, 1, none⟩ = some (.slice none 0 0) ∧ w'.cell? ⟨w.heap.size + 1, 0, none⟩ = some (.int .i8 2) ∧ w'.cell? ⟨w.heap.size + 1, 1, none⟩ = some (.slice none 0 0) ∧ w'.cell? ⟨w.heap.size + 1 + 1, 0, none⟩ = some (.int .i8 0) ∧ w'.cell? ⟨w.heap.size + 1 + 1, 1, none⟩ = some (.slice none 0 0) ∧ w'.cell? ⟨w3.heap.size, 0, none⟩ = some (.int .i8 1) ∧ w'.cell? ⟨w3.heap.size + 1, 0, none⟩ = some (.int .i8 0))
    (first | exact keep8 x0 x1 i0 i1 y0 y1 l0 r0 D4 | exact keep8 x0 x1 i0 i1 y0 y1 l0 r0 D3 | exact keep8 x0 x1 i0 i1 y0 y1 l0 r0 D2 | exact keep8 x0 x1 i0 i1 y0 y1 l0 r0 D1 | exact keep8 x0 x1 i0 i1 y0 y1 l0 r0 D0 | go_keep)
    (first
      | (go_at_call 13; (with_reducible refine (of_raw 3 1 none 0 0 0 none 0 0 _).mono ?_); rintro e u1 ⟨Q1, rfl, -, hq1, hb⟩; have D1 : Below wb.heap.size wb u1 := D0.trans hb; have HQ1 := Lib.hid hq1; clear hb hq1)
      | (go_at_call 13; (with_reducible refine (of_raw 3 0 none 0 0 2 none 0 0 _).mono ?_); rintro e u2 ⟨Q2, rfl, -, hq2, hb⟩; have D2 := D1.trans (hb.mono D1.size); have HQ2 := Lib.hid hq2; have HQ12 := Lib.hid (heap_below hb (heap_lt HQ1.out) HQ1.out); clear hb hq2)
      | (go_at_call 7; (with_reducible refine (C1.out Q1 Q2 _ D2 (is_two (by omega) (by omega) (by omega) (by omega) HQ12.out) (is_two (by omega) (by omega) (by omega) (by omega) HQ2.out)).mono ?_); rintro e u3 ⟨rfl, hb⟩; have D3 := D2.trans (hb.mono D2.size); clear hb)
      | (go_at_call 7; (with_reducible refine (C2.out _ D3).mono ?_); rintro e u4 ⟨rfl, hb⟩; have D4 := D3.trans (hb.mono D3.size); clear hb))
  go_wp2_with fail
  go_ret
  exact ⟨rfl, HB6.out.trans (D4.mono HB6.out.size)⟩
end Go.Proofs.YtailgpkgcockhaaDoor
