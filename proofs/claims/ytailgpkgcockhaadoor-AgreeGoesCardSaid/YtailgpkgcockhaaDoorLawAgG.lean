/-
  P6.3: what is known must be the same. The law's walk.
-/
import Derived.Test.YtailgpkgcockhaaDoorAg7
import Derived.Test.YtailgpkgcockhaaDoorAg8
import Derived.Test.YtailgpkgcockhaaDoorCounted
namespace Go.Proofs.YtailgpkgcockhaaDoor
open Go.RowKit

set_option maxHeartbeats 8000000 in
set_option maxRecDepth 100000 in
theorem law_AgreeGoes (k : Int) (kids : Fo) (A : Option Addr) (n c : Nat) (k' : Int) (kids' : Fo) (A' : Option Addr) (n' c' : Nat) (s : Int) (w : World) (hIs : Ty.Is w k kids A n c) (hIs' : Ty.Is w k' kids' A' n' c') (hS : Shapes w) (hs : -9223372036854775808 ≤ s ∧ s ≤ 9223372036854775807) :
    Calls Tryd.prog 3 #[.agg #[.int .i8 k, .slice A n c], .agg #[.int .i8 k', .slice A' n' c'], .int .i64 s] w fun e w' => e = .returned (.bool true) ∧ Below w.heap.size w w' := by
  have CC := Lib.hid (fun (W : World) (hb : Below w.heap.size w W) => check_any k kids A n c W (hIs.below hb) (hS.below hb))
  have CAB := Lib.hid (fun (W : World) (hb : Below w.heap.size w W) => agree_any k kids A n c k' kids' A' n' c' W (hIs.below hb) (hIs'.below hb) (hS.below hb))
  have CBA := Lib.hid (fun (W : World) (hb : Below w.heap.size w W) => agree_any k' kids' A' n' c' k kids A n c W (hIs'.below hb) (hIs.below hb) (hS.below hb))
  have CAA := Lib.hid (fun (W : World) (hb : Below w.heap.size w W) => agree_any k kids A n c k kids A n c W (hIs.below hb) (hIs.below hb) (hS.below hb))
  have CAO := Lib.hid (fun (W : World) (hb : Below w.heap.size w W) => agree_any k kids A n c 0 .nil none 0 0 W (hIs.below hb) (Ty.zero_is W) (hS.below hb))
  have CKA := Lib.hid (fun (W : World) (hb : Below w.heap.size w W) => known_fn k kids A n c W (hIs.below hb) (hS.below hb))
  have CKB := Lib.hid (fun (W : World) (hb : Below w.heap.size w W) => known_fn k' kids' A' n' c' W (hIs'.below hb) (hS.below hb))
  have CSS := Lib.hid (fun (W : World) (hb : Below w.heap.size w W) => same_any k kids A n c k' kids' A' n' c' W (hIs.below hb) (hIs'.below hb) (hS.below hb))
  rw [Ty.agree_symm] at CBA
  rw [Ty.agree_self] at CAA
  rw [Ty.agree_open] at CAO
  have HKN := Lib.hid (Ty.agree_known k kids k' kids')
  have HAP := Lib.hid (Ty.agree_parts (k := k) (k' := k') (kids := kids) (kids' := kids'))
  have HSB := Lib.hid hs
  clear hs
  obtain ⟨hB0, hR0, hR1⟩ := two_boxes w k A n c k' A' n' c'
  generalize hw1 : (w.alloc (.cells #[.int .i8 k, .slice A n c] 25)).alloc (.cells #[.int .i8 k', .slice A' n' c'] 25) = w1 at *
  have HW1 := Lib.hid hw1
  have HB1 := Lib.hid hB0
  have HX1 := Lib.hid hR0
  have HY1 := Lib.hid hR1
  have CSA := Lib.hid (fun (W : World) (hb : Below w.heap.size w W) => small_any k kids A n c W (hIs.below hb))
  have CSB := Lib.hid (fun (W : World) (hb : Below w.heap.size w W) => small_any k' kids' A' n' c' W (hIs'.below hb))
  have CW := Lib.hid (fun (W : World) (hb : Below w.heap.size w W) => wakes6_any W (hS.below hb))
  have HI := Lib.hid hIs
  have HI' := Lib.hid hIs'
  have HS := Lib.hid hS
  generalize hsa : decide (Ty.nodes kids + 1 ≤ 32768) = SA at *
  generalize hsb : decide (Ty.nodes kids' + 1 ≤ 32768) = SB at *
  obtain ⟨b0, b1, _, _, hb0⟩ := own2 hR0
  clear hB0 hR0 hR1 hIs hIs' hS hw1 hsa hsb
  cases SA
  · go_enter Tryd.func3, Tryd.ntmps3
    go_wp2_with fail
    rw [HW1.out]
    go_wp2_with fail
    refine (CSA.out _ HB1.out).mono ?_
    rintro e w2 ⟨rfl, hb⟩
    have HB2 := Lib.hid (HB1.out.trans (hb.mono HB1.out.size))
    clear hb b0 b1 hb0
    go_wp2_with fail
    refine (CW.out _ HB2.out).mono ?_
    rintro e w3 ⟨rfl, hb⟩
    go_wp2_with fail
    go_ret
    exact ⟨rfl, HB2.out.trans (hb.mono HB2.out.size)⟩
  cases SB
  · go_enter Tryd.func3, Tryd.ntmps3
    go_wp2_with fail
    rw [HW1.out]
    go_wp2_with fail
    refine (CSA.out _ HB1.out).mono ?_
    rintro e w2 ⟨rfl, hb⟩
    have HB2 := Lib.hid (HB1.out.trans (hb.mono HB1.out.size))
    obtain ⟨d0, d1, _, _, hd0⟩ := own2 (heap_below hb (heap_lt HY1.out) HY1.out)
    clear hb b0 b1 hb0
    go_wp2_with fail
    refine (CSB.out _ HB2.out).mono ?_
    rintro e w3 ⟨rfl, hb⟩
    have HB3 := Lib.hid (HB2.out.trans (hb.mono HB2.out.size))
    clear hb d0 d1 hd0
    go_wp2_with fail
    refine (CW.out _ HB3.out).mono ?_
    rintro e w4 ⟨rfl, hb⟩
    go_wp2_with fail
    go_ret
    exact ⟨rfl, HB3.out.trans (hb.mono HB3.out.size)⟩
  go_enter Tryd.func3, Tryd.ntmps3
  go_wp2_with fail
  rw [HW1.out]
  go_wp2_with fail
  refine (CSA.out _ HB1.out).mono ?_
  rintro e w2 ⟨rfl, hb⟩
  have HB2 := Lib.hid (HB1.out.trans (hb.mono HB1.out.size))
  have HX2 := Lib.hid (heap_below hb (heap_lt HX1.out) HX1.out)
  have HY2 := Lib.hid (heap_below hb (heap_lt HY1.out) HY1.out)
  obtain ⟨d0, d1, _, _, hd0⟩ := own2 HY2.out
  clear hb b0 b1 hb0
  go_wp2_with fail
  refine (CSB.out _ HB2.out).mono ?_
  rintro e w3 ⟨rfl, hb⟩
  have HB3 := Lib.hid (HB2.out.trans (hb.mono HB2.out.size))
  have HX3 := Lib.hid (heap_below hb (heap_lt HX2.out) HX2.out)
  have HY3 := Lib.hid (heap_below hb (heap_lt HY2.out) HY2.out)
  obtain ⟨b0, b1, _, _, hb0⟩ := own2 HX3.out
  clear hb d0 d1 hd0 HX1 HX2 HY1 HY2 HB1 HB2 HW1 CSA CSB
  have hck : (((Ty.chk k kids : Nat) : Int) == 0) = (Ty.chk k kids == 0) := by rw [Bool.eq_iff_iff]; simp
  have HRIGHT := Lib.hid (show (Ty.chk k kids == 0) = true → Ty.chk k kids = 0 from fun h => by simpa using h)
  have HLEFT := Lib.hid (fun (kc : Int) (fc : Fo) (h : Ty.Opens k kids kc fc) (ha : Ty.agreeT k kids k' kids' = true) => h.left ha)
  have HSELF := Lib.hid (fun (kc : Int) (fc : Fo) (h : Ty.Opens k kids kc fc) (ha : Ty.chk k kids = 0) => h.right ha)
  have HOK := Lib.hid (show Ty.chk k kids = 0 → Ty.okT k kids = true from fun h => (Ty.chk_ok h).1)
  generalize hok : (Ty.chk k kids == 0) = OK at *
  have HOKE := Lib.hid hok
  generalize hr : Ty.agreeT k kids k' kids' = R at *
  generalize hss : Ty.sameT k kids k' kids' = S at *
  generalize hka : Ty.knownT k kids = KA at *
  generalize hkb : Ty.knownT k' kids' = KB at *
  clear hok hr hss hka hkb
  have HCK := Lib.hid hck
  generalize ((Ty.chk k kids : Nat) : Int) = C at *
  clear hck
  go_wp2_with fail
  refine (CC.out _ HB3.out).mono ?_
  rintro e w4 ⟨rfl, hb⟩
  have hck := HCK.out
  have HB4 := Lib.hid (HB3.out.trans (hb.mono HB3.out.size))
  have HX4 := Lib.hid (heap_below hb (heap_lt HX3.out) HX3.out)
  have HY4 := Lib.hid (heap_below hb (heap_lt HY3.out) HY3.out)
  clear hb b0 b1 hb0 HX3 HY3 HB3 CC
  go_wp2_with fail
  have hRR : (R != R) = false := by simp
  have hOO : (OK != OK) = false := by simp
  have D1 := Lib.hid (fun (u : World) (hE : Below w4.heap.size w4 u) => CAB.out u (HB4.out.trans (hE.mono HB4.out.size)))
  have D2 := Lib.hid (fun (u : World) (hE : Below w4.heap.size w4 u) => CBA.out u (HB4.out.trans (hE.mono HB4.out.size)))
  have D3 := Lib.hid (fun (u : World) (hE : Below w4.heap.size w4 u) => CAA.out u (HB4.out.trans (hE.mono HB4.out.size)))
  have D4 := Lib.hid (fun (u : World) (hE : Below w4.heap.size w4 u) => CAO.out u (HB4.out.trans (hE.mono HB4.out.size)))
  obtain ⟨x0, x1, _, _, _⟩ := own2 HX4.out
  obtain ⟨y0, y1, _, _, _⟩ := own2 HY4.out
  have X0 := later_cell x0
  have X1 := later_cell x1
  have Y0 := later_cell y0
  have Y1 := later_cell y1
  clear x0 x1 y0 y1
  refine wp_region_low (by kernel_rfl) (by kernel_rfl) ?_
  repeat
    first
      | go_big_quiet_skip
      | (go_big_quiet_want
         go_big_quiet_op
         first
           | go_big_quiet_on
           | (refine ⟨_, fun _ => rfl, ?_⟩
              go_big_quiet_on)
           | (apply Exists.intro
              refine ⟨fun h => ?_, ?_⟩
              · first
                  | (go_at_call 7; with_reducible exact call_low h (D1.out h.u h.low))
                  | (go_at_call 7; with_reducible exact call_low h (D2.out h.u h.low))
                  | (go_at_call 7; with_reducible exact call_low h (D3.out h.u h.low))
                  | (go_at_call 7; with_reducible exact call_low h (D4.out h.u h.low))
              go_big_quiet_on))
  refine wpQuiet_nil ?_
  rintro w5 ⟨⟨_, E5⟩, rfl⟩
  have HB5 := Lib.hid (HB4.out.trans (E5.mono HB4.out.size))
  have HX5 := Lib.hid (heap_below E5 (heap_lt HX4.out) HX4.out)
  have HY5 := Lib.hid (heap_below E5 (heap_lt HY4.out) HY4.out)
  clear E5 X0 X1 Y0 Y1 HX4 HY4 HB4 D1 D2 D3 D4 hRR hOO
  have D1 := Lib.hid (fun (u : World) (hE : Below w5.heap.size w5 u) => CAB.out u (HB5.out.trans (hE.mono HB5.out.size)))
  have D2 := Lib.hid (fun (u : World) (hE : Below w5.heap.size w5 u) => CKA.out u (HB5.out.trans (hE.mono HB5.out.size)))
  have D3 := Lib.hid (fun (u : World) (hE : Below w5.heap.size w5 u) => CKB.out u (HB5.out.trans (hE.mono HB5.out.size)))
  have D4 := Lib.hid (fun (u : World) (hE : Below w5.heap.size w5 u) => CSS.out u (HB5.out.trans (hE.mono HB5.out.size)))
  go_wp2_with fail
  obtain ⟨x0, x1, _, _, _⟩ := own2 HX5.out
  obtain ⟨y0, y1, _, _, _⟩ := own2 HY5.out
  have X0 := later_cell x0
  have X1 := later_cell x1
  have Y0 := later_cell y0
  have Y1 := later_cell y1
  clear x0 x1 y0 y1
  have HF : (R = S ∧ KA = true ∧ KB = true) ∨ (KA = true ∧ KB = false) ∨ KA = false := by
    have h := HKN.out
    cases KA
    · exact .inr (.inr rfl)
    · cases KB
      · exact .inr (.inl ⟨rfl, rfl⟩)
      · exact .inl ⟨h rfl rfl, rfl, rfl⟩
  clear HKN
  rcases HF with ⟨rfl, rfl, rfl⟩ | ⟨rfl, rfl⟩ | rfl
  all_goals
    refine wp_region_low (by kernel_rfl) (by kernel_rfl) ?_
    repeat
      first
        | go_big_quiet_skip
        | (go_big_quiet_want
           go_big_quiet_op
           first
             | go_big_quiet_on
             | (refine ⟨_, fun _ => rfl, ?_⟩
                go_big_quiet_on)
             | (apply Exists.intro
                refine ⟨fun h => ?_, ?_⟩
                · first
                    | (go_at_call 7; with_reducible exact call_low h (D1.out h.u h.low))
                    | (go_at_call 8; with_reducible exact call_low h (D2.out h.u h.low))
                    | (go_at_call 8; with_reducible exact call_low h (D3.out h.u h.low))
                    | (go_at_call 9; with_reducible exact call_low h (D4.out h.u h.low))
                go_big_quiet_on))
    refine wpQuiet_nil ?_
    rintro w6 ⟨⟨_, E6⟩, rfl⟩
    have HB6 := Lib.hid (HB5.out.trans (E6.mono HB5.out.size))
    have HX6 := Lib.hid (heap_below E6 (heap_lt HX5.out) HX5.out)
    have HY6 := Lib.hid (heap_below E6 (heap_lt HY5.out) HY5.out)
    clear E6 X0 X1 Y0 Y1 HX5 HY5 HB5 D1 D2 D3 D4
    cases OK
    · go_wp2_with fail
      refine (CW.out _ HB6.out).mono ?_
      rintro e w7 ⟨rfl, hb⟩
      go_wp2_with fail
      go_ret
      exact ⟨rfl, HB6.out.trans (hb.mono HB6.out.size)⟩
    obtain ⟨x0, x1, _, _, hxl⟩ := own2 HX6.out
    obtain ⟨y0, y1, _, _, hyl⟩ := own2 HY6.out
    go_wp2_with fail
    refine (CAB.out _ HB6.out).mono ?_
    rintro e w7 ⟨rfl, hb⟩
    have HB7 := Lib.hid (HB6.out.trans (hb.mono HB6.out.size))
    have HX7 := Lib.hid (heap_below hb (heap_lt HX6.out) HX6.out)
    have HY7 := Lib.hid (heap_below hb (heap_lt HY6.out) HY6.out)
    clear hb x0 x1 hxl y0 y1 hyl HX6 HY6 HB6
    cases R
    · go_wp2_with fail
      refine (CW.out _ HB7.out).mono ?_
      rintro e w8 ⟨rfl, hb⟩
      go_wp2_with fail
      go_ret
      exact ⟨rfl, HB7.out.trans (hb.mono HB7.out.size)⟩
    obtain ⟨x0, x1, _, _, hxl⟩ := own2 HX7.out
    have CO := Lib.hid (opened_any (Ty.nodes kids + 1) k kids A n c s (fun b => b < w.heap.size) w7 (Nat.lt_succ_self _) (HI.out.inP.to fun b o v hb hc => ⟨hb, keepAt' hc HB7.out⟩) (fun b hb => Nat.lt_of_lt_of_le hb HB7.out.size) (HOK.out (HRIGHT.out (by first | rfl | trivial))) HSB.out)
    go_wp2_with fail
    refine CO.out.mono ?_
    rintro e w8 ⟨kc, fc, G, m, cg, x, rfl, -, hip, hop, hb⟩
    have hb9 : Below w8.heap.size w8 (w8.alloc (.cells #[.int .i8 kc, .slice G m cg] 25)) := (Below.refl _ _).alloc (Nat.le_refl _) _
    have hb10 := hb.trans (hb9.mono hb.size)
    have HB9 := Lib.hid (HB7.out.trans (hb10.mono HB7.out.size))
    have HX9 := Lib.hid (heap_below hb10 (heap_lt HX7.out) HX7.out)
    have HY9 := Lib.hid (heap_below hb10 (heap_lt HY7.out) HY7.out)
    have HC9 := Lib.hid (heap_new w8 (.cells #[.int .i8 kc, .slice G m cg] 25))
    have HIC := Lib.hid (hip.is.below hb9)
    have hA1 := Lib.hid (HLEFT.out kc fc hop (by first | rfl | trivial))
    have hA2 := Lib.hid (HSELF.out kc fc hop (HRIGHT.out (by first | rfl | trivial)))
    clear hb hb9 hb10 hip hop x0 x1 hxl CO HX7 HY7 HB7
    go_upto_region 11 with fail
    generalize w8.alloc (.cells #[.int .i8 kc, .slice G m cg] 25) = w9 at *
    obtain ⟨x0, x1, _, _, hxl⟩ := own2 HX9.out
    obtain ⟨y0, y1, _, _, hyl⟩ := own2 HY9.out
    obtain ⟨z0, z1, _, _, hzl⟩ := own2 HC9.out
    have C1 := Lib.hid (agree_any kc fc G m cg k' kids' A' n' c' w9 HIC.out (HI'.out.below HB9.out) (HS.out.below HB9.out))
    rw [hA1.out] at C1
    go_wp2_with fail
    refine C1.out.mono ?_
    rintro e w10 ⟨rfl, hb⟩
    have HB10 := Lib.hid (HB9.out.trans (hb.mono HB9.out.size))
    have C2 := Lib.hid (agree_any k kids A n c kc fc G m cg w10 (HI.out.below HB10.out) (HIC.out.below hb) (HS.out.below HB10.out))
    rw [hA2.out] at C2
    obtain ⟨u0, u1, _, _, hul⟩ := own2 (heap_below hb (heap_lt HX9.out) HX9.out)
    obtain ⟨v0, v1, _, _, hvl⟩ := own2 (heap_below hb (heap_lt HC9.out) HC9.out)
    clear hb x0 x1 hxl y0 y1 hyl z0 z1 hzl
    go_wp2_with fail
    refine C2.out.mono ?_
    rintro e w11 ⟨rfl, hb⟩
    have HB11 := Lib.hid (HB10.out.trans (hb.mono HB10.out.size))
    clear hb u0 u1 hul v0 v1 hvl
    go_wp2_with fail
    refine (CW.out _ HB11.out).mono ?_
    rintro e w12 ⟨rfl, hb⟩
    go_wp2_with fail
    go_ret
    exact ⟨rfl, HB11.out.trans (hb.mono HB11.out.size)⟩
end Go.Proofs.YtailgpkgcockhaaDoor
