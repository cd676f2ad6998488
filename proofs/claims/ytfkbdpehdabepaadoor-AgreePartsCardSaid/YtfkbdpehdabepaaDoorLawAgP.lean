/-
  P6.4: parts. The law's walk.
-/
import Derived.Test.YtfkbdpehdabepaaDoorLawAgG
namespace Go.Proofs.YtfkbdpehdabepaaDoor
open Go.RowKit

set_option maxHeartbeats 8000000 in
set_option maxRecDepth 100000 in
theorem law_AgreeParts (k : Int) (kids : Fo) (A : Option Addr) (n c : Nat) (k' : Int) (kids' : Fo) (A' : Option Addr) (n' c' : Nat) (kd : Int) (w : World) (hIs : Ty.Is w k kids A n c) (hIs' : Ty.Is w k' kids' A' n' c') (hS : Shapes w) :
    Calls Tryd.prog 4 #[.agg #[.int .i8 k, .slice A n c], .agg #[.int .i8 k', .slice A' n' c'], .int .i8 kd] w fun e w' => e = .returned (.bool true) ∧ Below w.heap.size w w' := by
  have CA := Lib.hid (fun (W : World) (hb : Below w.heap.size w W) => as_any kd k kids A n c W (hIs.below hb) (hS.below hb))
  have CB := Lib.hid (fun (W : World) (hb : Below w.heap.size w W) => as_any kd k' kids' A' n' c' W (hIs'.below hb) (hS.below hb))
  have CAB := Lib.hid (fun (W : World) (hb : Below w.heap.size w W) => agree_any k kids A n c k' kids' A' n' c' W (hIs.below hb) (hIs'.below hb) (hS.below hb))
  have HWH := Lib.hid (fun h => Ty.as_whole (kd := kd) (k := k) (kids := kids) h)
  have HBO := Lib.hid (fun (e : k = kd) (e' : k' = kd) (h : Ty.asOk kd k kids = true) (h' : Ty.asOk kd k' kids' = true) => (show Ty.agreeT k kids k' kids' = (Ty.agreeT (Ty.asL kd k kids).1 (Ty.asL kd k kids).2 (Ty.asL kd k' kids').1 (Ty.asL kd k' kids').2 && Ty.agreeT (Ty.asR kd k kids).1 (Ty.asR kd k kids).2 (Ty.asR kd k' kids').1 (Ty.asR kd k' kids').2) from by subst e; subst e'; exact Ty.as_both h h'))
  obtain ⟨hB0, hR0, hR1⟩ := two_boxes w k A n c k' A' n' c'
  generalize hw1 : (w.alloc (.cells #[.int .i8 k, .slice A n c] 25)).alloc (.cells #[.int .i8 k', .slice A' n' c'] 25) = w1 at *
  have HW1 := Lib.hid hw1
  have HB1 := Lib.hid hB0
  have HX1 := Lib.hid hR0
  have HY1 := Lib.hid hR1
  have CSA := Lib.hid (fun (W : World) (hb : Below w.heap.size w W) => small_any k kids A n c W (hIs.below hb))
  have CSB := Lib.hid (fun (W : World) (hb : Below w.heap.size w W) => small_any k' kids' A' n' c' W (hIs'.below hb))
  have CW := Lib.hid (fun (W : World) (hb : Below w.heap.size w W) => wakes6_any W (hS.below hb))
  have HI := Lib.hid hIs
  have HI' := Lib.hid hIs'
  have HS := Lib.hid hS
  generalize hsa : decide (Ty.nodes kids + 1 ≤ 32768) = SA at *
  generalize hsb : decide (Ty.nodes kids' + 1 ≤ 32768) = SB at *
  obtain ⟨b0, b1, _, _, hb0⟩ := own2 hR0
  clear hB0 hR0 hR1 hIs hIs' hS hw1 hsa hsb
  cases SA
  · go_enter Tryd.func4, Tryd.ntmps4
    go_wp2_with fail
    rw [HW1.out]
    go_wp2_with fail
    refine (CSA.out _ HB1.out).mono ?_
    rintro e w2 ⟨rfl, hb⟩
    have HB2 := Lib.hid (HB1.out.trans (hb.mono HB1.out.size))
    clear hb b0 b1 hb0
    go_wp2_with fail
    refine (CW.out _ HB2.out).mono ?_
    rintro e w3 ⟨rfl, hb⟩
    go_wp2_with fail
    go_ret
    exact ⟨rfl, HB2.out.trans (hb.mono HB2.out.size)⟩
  cases SB
  · go_enter Tryd.func4, Tryd.ntmps4
    go_wp2_with fail
    rw [HW1.out]
    go_wp2_with fail
    refine (CSA.out _ HB1.out).mono ?_
    rintro e w2 ⟨rfl, hb⟩
    have HB2 := Lib.hid (HB1.out.trans (hb.mono HB1.out.size))
    obtain ⟨d0, d1, _, _, hd0⟩ := own2 (heap_below hb (heap_lt HY1.out) HY1.out)
    clear hb b0 b1 hb0
    go_wp2_with fail
    refine (CSB.out _ HB2.out).mono ?_
    rintro e w3 ⟨rfl, hb⟩
    have HB3 := Lib.hid (HB2.out.trans (hb.mono HB2.out.size))
    clear hb d0 d1 hd0
    go_wp2_with fail
    refine (CW.out _ HB3.out).mono ?_
    rintro e w4 ⟨rfl, hb⟩
    go_wp2_with fail
    go_ret
    exact ⟨rfl, HB3.out.trans (hb.mono HB3.out.size)⟩
  go_enter Tryd.func4, Tryd.ntmps4
  go_wp2_with fail
  rw [HW1.out]
  go_wp2_with fail
  refine (CSA.out _ HB1.out).mono ?_
  rintro e w2 ⟨rfl, hb⟩
  have HB2 := Lib.hid (HB1.out.trans (hb.mono HB1.out.size))
  have HX2 := Lib.hid (heap_below hb (heap_lt HX1.out) HX1.out)
  have HY2 := Lib.hid (heap_below hb (heap_lt HY1.out) HY1.out)
  obtain ⟨d0, d1, _, _, hd0⟩ := own2 HY2.out
  clear hb b0 b1 hb0
  go_wp2_with fail
  refine (CSB.out _ HB2.out).mono ?_
  rintro e w3 ⟨rfl, hb⟩
  have HB3 := Lib.hid (HB2.out.trans (hb.mono HB2.out.size))
  have HX3 := Lib.hid (heap_below hb (heap_lt HX2.out) HX2.out)
  have HY3 := Lib.hid (heap_below hb (heap_lt HY2.out) HY2.out)
  obtain ⟨b0, b1, _, _, hb0⟩ := own2 HX3.out
  clear hb d0 d1 hd0 HX1 HX2 HY1 HY2 HB1 HB2 HW1 CSA CSB
  have HAB := Lib.hid (show (∃ R, Ty.agreeT k kids k' kids' = R) from ⟨_, rfl⟩)
  generalize Ty.agreeT k kids k' kids' = R at *
  generalize Ty.asOk kd k kids = OK at *
  generalize Ty.asOk kd k' kids' = TOO at *
  generalize Ty.asL kd k kids = l at *
  generalize Ty.asR kd k kids = r at *
  generalize Ty.asL kd k' kids' = x at *
  generalize Ty.asR kd k' kids' = y at *
  obtain ⟨lk, lf⟩ := l
  obtain ⟨rk, rf⟩ := r
  obtain ⟨xk, xf⟩ := x
  obtain ⟨yk, yf⟩ := y
  clear HAB
  go_wp2_with fail
  refine (CA.out _ HB3.out).mono ?_
  rintro e w4 ⟨G1, m1, c1, G2, m2, c2, rfl, hi1, hi2, hb⟩
  obtain ⟨hl5, hr5, -⟩ := two_new w4 (.cells #[.int .i8 lk, .slice G1 m1 c1] 25) (.cells #[.int .i8 rk, .slice G2 m2 c2] 25)
  have hb5 : Below w4.heap.size w4 ((w4.alloc (.cells #[.int .i8 lk, .slice G1 m1 c1] 25)).alloc (.cells #[.int .i8 rk, .slice G2 m2 c2] 25)) := ((Below.refl _ _).alloc (Nat.le_refl _) _).alloc (by simp) _
  have hb6 := hb.trans (hb5.mono hb.size)
  have HB5 := Lib.hid (HB3.out.trans (hb6.mono HB3.out.size))
  have HX5 := Lib.hid (heap_below hb6 (heap_lt HX3.out) HX3.out)
  have HY5 := Lib.hid (heap_below hb6 (heap_lt HY3.out) HY3.out)
  have HL5 := Lib.hid hl5
  have HR5 := Lib.hid hr5
  have HI1 := Lib.hid (hi1.below hb5)
  have HI2 := Lib.hid (hi2.below hb5)
  clear hb hb5 hb6 hi1 hi2 hl5 hr5 b0 b1 hb0 HX3 HY3 HB3
  go_upto_region 4 with fail
  generalize (w4.alloc (.cells #[.int .i8 lk, .slice G1 m1 c1] 25)).alloc (.cells #[.int .i8 rk, .slice G2 m2 c2] 25) = w5 at *
  go_upto_if 30 with fail
  go_cut [9] (fun s9 wx => s9 = .bool OK ∧ Below w5.heap.size w5 wx)
  case first =>
    cases OK
    · go_wp2_with fail
      go_meet
      exact ⟨rfl, Below.refl _ _⟩
    · obtain ⟨hkd, hag, hsm⟩ := HWH.out (by first | rfl | trivial)
      have HK := Lib.hid hkd
      obtain ⟨l0, l1, _, _, hll⟩ := own2 HL5.out
      obtain ⟨r0, r1, _, _, hrl⟩ := own2 HR5.out
      clear hkd
      go_wp2_with fail
      refine (of_any kd (by have := HK.out; omega) lk lf G1 m1 c1 rk rf G2 m2 c2 w5 HI1.out HI2.out).mono ?_
      rintro e w6 ⟨M, rfl, -, hic, hb⟩
      have hb7 : Below w6.heap.size w6 (w6.alloc (.cells #[.int .i8 kd, .slice (some ⟨M, 0, none⟩) 2 2] 25)) := (Below.refl _ _).alloc (Nat.le_refl _) _
      have hb8 := hb.trans (hb7.mono hb.size)
      have HB8 := Lib.hid hb8
      have HX8 := Lib.hid (heap_below hb8 (heap_lt HX5.out) HX5.out)
      have HC8 := Lib.hid (heap_new w6 (.cells #[.int .i8 kd, .slice (some ⟨M, 0, none⟩) 2 2] 25))
      have HIC := Lib.hid (hic.below hb7)
      clear hb hb7 hb8 hic l0 l1 hll r0 r1 hrl
      go_upto_region 6 with fail
      generalize w6.alloc (.cells #[.int .i8 kd, .slice (some ⟨M, 0, none⟩) 2 2] 25) = w8 at *
      have HBW := Lib.hid (HB5.out.trans (HB8.out.mono HB5.out.size))
      have C1 := Lib.hid (agree_any k kids A n c kd (Ty.two lk lf rk rf) (some ⟨M, 0, none⟩) 2 2 w8 (HI.out.below HBW.out) HIC.out (HS.out.below HBW.out))
      have C2 := Lib.hid (fun (W : World) (hb : Below w8.heap.size w8 W) => same_any k kids A n c kd (Ty.two lk lf rk rf) (some ⟨M, 0, none⟩) 2 2 W (HI.out.below (HBW.out.trans (hb.mono HBW.out.size))) (HIC.out.below hb) (HS.out.below (HBW.out.trans (hb.mono HBW.out.size))))
      rw [show Ty.agreeT k kids kd (Ty.two lk lf rk rf) = true from hag] at C1
      obtain ⟨x0, x1, _, _, hxl⟩ := own2 HX8.out
      obtain ⟨z0, z1, _, _, hzl⟩ := own2 HC8.out
      have hkr : kd = 3 ∨ kd = 4 ∨ kd = 5 := by have := HK.out; omega
      by_cases hk0 : k = 0
      · subst hk0
        clear hag hsm C2 HK
        rcases hkr with rfl | rfl | rfl
        all_goals
          go_wp2_with fail
          refine C1.out.mono ?_
          rintro e w9 ⟨rfl, hb⟩
          have HB9 := Lib.hid (HB8.out.trans (hb.mono HB8.out.size))
          obtain ⟨x0, x1, _, _, hxl⟩ := own2 (heap_below hb (heap_lt HX8.out) HX8.out)
          clear hb
          go_wp2_with fail
          go_meet
          exact ⟨rfl, HB9.out⟩
      · have hk1 : (k != 0) = true := by simpa using hk0
        have hsm2 := hsm hk0
        rw [show Ty.sameT k kids kd (Ty.two lk lf rk rf) = true from hsm2] at C2
        clear hag hsm hsm2 HK hk0
        rcases hkr with rfl | rfl | rfl
        all_goals
          go_wp2_with fail
          refine C1.out.mono ?_
          rintro e w9 ⟨rfl, hb⟩
          have HB9 := Lib.hid hb
          have HX9 := Lib.hid (heap_below hb (heap_lt HX8.out) HX8.out)
          obtain ⟨x0, x1, _, _, hxl⟩ := own2 HX9.out
          obtain ⟨z0, z1, _, _, hzl⟩ := own2 (heap_below hb (heap_lt HC8.out) HC8.out)
          clear hb
          go_wp2_with fail
          refine (C2.out _ HB9.out).mono ?_
          rintro e w10 ⟨rfl, hb⟩
          have HB10 := Lib.hid (HB8.out.trans ((HB9.out.trans (hb.mono HB9.out.size)).mono HB8.out.size))
          clear hb x0 x1 hxl z0 z1 hzl
          go_wp2_with fail
          go_meet
          exact ⟨rfl, HB10.out⟩
  case rest =>
    obtain ⟨rfl, hbc⟩ := hcut
    have HB6 := Lib.hid (HB5.out.trans (hbc.mono HB5.out.size))
    have HX6 := Lib.hid (heap_below hbc (heap_lt HX5.out) HX5.out)
    have HY6 := Lib.hid (heap_below hbc (heap_lt HY5.out) HY5.out)
    have HL6 := Lib.hid (heap_below hbc (heap_lt HL5.out) HL5.out)
    have HR6 := Lib.hid (heap_below hbc (heap_lt HR5.out) HR5.out)
    have HJ1 := Lib.hid (HI1.out.below hbc)
    have HJ2 := Lib.hid (HI2.out.below hbc)
    clear hbc HX5 HY5 HL5 HR5 HI1 HI2 HWH
    obtain ⟨y0, y1, _, _, hyl⟩ := own2 HY6.out
    go_wp2_with fail
    refine (CB.out _ HB6.out).mono ?_
    rintro e w7 ⟨G3, m3, c3, G4, m4, c4, rfl, hi3, hi4, hb⟩
    obtain ⟨hl8, hr8, -⟩ := two_new w7 (.cells #[.int .i8 xk, .slice G3 m3 c3] 25) (.cells #[.int .i8 yk, .slice G4 m4 c4] 25)
    have hb8 : Below w7.heap.size w7 ((w7.alloc (.cells #[.int .i8 xk, .slice G3 m3 c3] 25)).alloc (.cells #[.int .i8 yk, .slice G4 m4 c4] 25)) := ((Below.refl _ _).alloc (Nat.le_refl _) _).alloc (by simp) _
    have hb9 := hb.trans (hb8.mono hb.size)
    have HB8 := Lib.hid (HB6.out.trans (hb9.mono HB6.out.size))
    have HX8 := Lib.hid (heap_below hb9 (heap_lt HX6.out) HX6.out)
    have HY8 := Lib.hid (heap_below hb9 (heap_lt HY6.out) HY6.out)
    have HL8 := Lib.hid (heap_below hb9 (heap_lt HL6.out) HL6.out)
    have HR8 := Lib.hid (heap_below hb9 (heap_lt HR6.out) HR6.out)
    have HP8 := Lib.hid hl8
    have HQ8 := Lib.hid hr8
    have HK1 := Lib.hid (HJ1.out.below hb9)
    have HK2 := Lib.hid (HJ2.out.below hb9)
    have HK3 := Lib.hid (hi3.below hb8)
    have HK4 := Lib.hid (hi4.below hb8)
    clear hb hb8 hb9 hi3 hi4 hl8 hr8 y0 y1 hyl HX6 HY6 HL6 HR6 HJ1 HJ2 HB6
    go_upto_region 9 with fail
    generalize (w7.alloc (.cells #[.int .i8 xk, .slice G3 m3 c3] 25)).alloc (.cells #[.int .i8 yk, .slice G4 m4 c4] 25) = w8 at *
    obtain ⟨x0, x1, _, _, hxl⟩ := own2 HX8.out
    obtain ⟨y0, y1, _, _, hyl⟩ := own2 HY8.out
    have HSP := Lib.hid (show (OK = true ∧ TOO = true ∧ k = kd ∧ k' = kd) ∨ OK = false ∨ (OK = true ∧ TOO = false) ∨ (OK = true ∧ TOO = true ∧ (k == kd) = false) ∨ (OK = true ∧ TOO = true ∧ (k == kd) = true ∧ (k' == kd) = false) from by
      cases OK
      · exact .inr (.inl rfl)
      · cases TOO
        · exact .inr (.inr (.inl ⟨rfl, rfl⟩))
        · cases h1 : (k == kd)
          · exact .inr (.inr (.inr (.inl ⟨rfl, rfl, rfl⟩)))
          · cases h2 : (k' == kd)
            · exact .inr (.inr (.inr (.inr ⟨rfl, rfl, rfl, rfl⟩)))
            · exact .inl ⟨rfl, rfl, by simpa using h1, by simpa using h2⟩)
    rcases HSP.out with ⟨rfl, rfl, ek, ek'⟩ | rfl | ⟨rfl, rfl⟩ | ⟨rfl, rfl, h1⟩ | ⟨rfl, rfl, h1, h2⟩
    case inl =>
      have hR := HBO.out ek ek' (by first | rfl | trivial) (by first | rfl | trivial)
      have h1 : (k == kd) = true := by simpa using ek
      have h2 : (k' == kd) = true := by simpa using ek'
      clear ek ek' HBO HSP
      go_wp2_with fail
      clear h1 h2 x0 x1 y0 y1 hxl hyl
      have CLX := Lib.hid (fun (u : World) (hE : Below w8.heap.size w8 u) => agree_any lk lf G1 m1 c1 xk xf G3 m3 c3 u (HK1.out.below hE) (HK3.out.below hE) (HS.out.below (HB8.out.trans (hE.mono HB8.out.size))))
      have CRY := Lib.hid (fun (u : World) (hE : Below w8.heap.size w8 u) => agree_any rk rf G2 m2 c2 yk yf G4 m4 c4 u (HK2.out.below hE) (HK4.out.below hE) (HS.out.below (HB8.out.trans (hE.mono HB8.out.size))))
      have CE := Lib.hid (fun (u : World) (hE : Below w8.heap.size w8 u) => CAB.out u (HB8.out.trans (hE.mono HB8.out.size)))
      have CV := Lib.hid (fun (u : World) (hE : Below w8.heap.size w8 u) => CW.out u (HB8.out.trans (hE.mono HB8.out.size)))
      have hR' : R = (Ty.agreeT lk lf xk xf && Ty.agreeT rk rf yk yf) := hR
      generalize Ty.agreeT lk lf xk xf = R1 at *
      generalize Ty.agreeT rk rf yk yf = R2 at *
      subst hR'
      clear hR
      obtain ⟨x0, x1, _, _, _⟩ := own2 HX8.out
      obtain ⟨y0, y1, _, _, _⟩ := own2 HY8.out
      obtain ⟨l0, l1, _, _, _⟩ := own2 HL8.out
      obtain ⟨r0, r1, _, _, _⟩ := own2 HR8.out
      obtain ⟨p0, p1, _, _, _⟩ := own2 HP8.out
      obtain ⟨q0, q1, _, _, _⟩ := own2 HQ8.out
      have X0 := later_cell x0
      have X1 := later_cell x1
      have Y0 := later_cell y0
      have Y1 := later_cell y1
      have L0 := later_cell l0
      have L1 := later_cell l1
      have R0 := later_cell r0
      have R1' := later_cell r1
      have P0 := later_cell p0
      have P1 := later_cell p1
      have Q0 := later_cell q0
      have Q1 := later_cell q1
      clear x0 x1 y0 y1 l0 l1 r0 r1 p0 p1 q0 q1 CA CB CAB CW HX8 HY8 HL8 HR8 HP8 HQ8 HK1 HK2 HK3 HK4
      cases R1
      all_goals
        cases R2
        all_goals
          refine wp_region_low (by kernel_rfl) (by kernel_rfl) ?_
          repeat
            first
              | go_big_quiet_skip
              | (go_big_quiet_want
                 go_big_quiet_op
                 first
                   | go_big_quiet_on
                   | (refine ⟨_, fun _ => rfl, ?_⟩
                      go_big_quiet_on)
                   | (apply Exists.intro
                      refine ⟨fun h => ?_, ?_⟩
                      · first
                          | (go_at_call 8; with_reducible exact call_low h (CE.out h.u h.low))
                          | (go_at_call 8; with_reducible exact call_low h (CLX.out h.u h.low))
                          | (go_at_call 8; with_reducible exact call_low h (CRY.out h.u h.low))
                          | (go_at_call 11; with_reducible exact call_low h (CV.out h.u h.low))
                      go_big_quiet_on))
          refine wpQuiet_nil ?_
          rintro w9 ⟨⟨_, E⟩, rfl⟩
          go_wp2_with fail
          go_ret
          exact ⟨rfl, HB8.out.trans (E.mono HB8.out.size)⟩
    all_goals
      clear HBO HSP
      go_wp2_with fail
      refine (CW.out _ HB8.out).mono ?_
      rintro e w9 ⟨rfl, hb⟩
      go_wp2_with fail
      go_ret
      exact ⟨rfl, HB8.out.trans (hb.mono HB8.out.size)⟩
end Go.Proofs.YtfkbdpehdabepaaDoor
