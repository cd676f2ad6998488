/-
  R10: great types. The law's walk.
-/
import Derived.Test.YtgjmkijamcniiaaDoorLawSame
import Derived.Test.YtgjmkijamcniiaaDoorLow
import Derived.Test.YtgjmkijamcniiaaDoorGreat
namespace Go.Proofs.YtgjmkijamcniiaaDoor
open Go.RowKit

set_option maxHeartbeats 8000000 in
set_option maxRecDepth 100000 in
theorem law_TypesGreat (w : World) (hS : Shapes w) :
    Calls Tryd.prog 6 #[] w fun e w' => e = .returned (.bool true) ∧ Below w.heap.size w w' := by
  have HNew := Lib.hid (Box.newA w)
  have HS := Lib.hid hS
  clear hS
  go_enter Tryd.func6, Tryd.ntmps6
  go_wp2_with fail
  go_loopw [2] (fun v2 wr => ∃ (i : Nat) (A : Option Addr) (n c : Nat), v2 = .int .i64 i ∧ i ≤ 60 ∧ Box w (Ty.aK i) (Ty.aF i) A n c wr) (fun v _ => 60 - (intOf v).toNat)
  case atStart => exact ⟨0, none, 0, 0, rfl, by omega, HNew.out⟩
  case round =>
    obtain ⟨i, A, n, c, rfl, hi, hX⟩ := hrel
    clear HNew
    by_cases h60 : (i : Int) < 60
    · obtain ⟨x0, x1, p0, p1, hl⟩ := hX.own
      have HX := Lib.hid hX
      clear hX
      go_wp2_with fail
      refine (of_raw 4 (Ty.aK i) A n c (Ty.aK i) A n c _).mono ?_
      rintro e w2 ⟨N, rfl, hN, hc, hb⟩
      have hX2 := HX.out.later hb
      have HC := Lib.hid hc
      clear x0 x1 p0 p1 HX hc
      obtain ⟨x0, x1, p0, p1, hl2⟩ := hX2.own
      have HX2 := Lib.hid hX2
      clear hX2 hb
      go_wp2_with fail
      go_roundw
      case rel => exact ⟨i + 1, _, _, _, by go_num, by omega, HX2.out.putA HC.out (by (try simp at hN); omega)⟩
      case measure => simp [intOf]; omega
    · have hi60 : i = 60 := by omega
      rw [show (i : Int) = 60 by omega]
      subst hi60
      have hA : Box w 4 (Ty.aF 60) A n c wr := hX
      have HA := Lib.hid hA
      have HS1 := Lib.hid (HS.out.below hA.below)
      have HB1 := Lib.hid hA.below
      clear hX hA h60 hi HS
      rename World => wa
      have HNewB := Lib.hid (Box.newB wa)
      go_wp2_with fail
      go_loopw [4] (fun v4 wr => ∃ (j : Nat) (B : Option Addr) (m d : Nat), v4 = .int .i64 ((j : Int) + 1) ∧ j ≤ 199 ∧ Box wa (Ty.bK j) (Ty.bF j) B m d wr) (fun v _ => 200 - (intOf v).toNat)
      case atStart => exact ⟨0, none, 0, 0, rfl, by omega, HNewB.out⟩
      case round =>
        obtain ⟨j, B, m, d, rfl, hj, hX⟩ := hrel
        clear HNewB
        by_cases h199 : (j : Int) < 199
        · obtain ⟨x0, x1, p0, p1, hl⟩ := hX.own
          have HX := Lib.hid hX
          have hj2 : (j : Int) + 1 < 200 := by omega
          clear hX
          go_wp2_with fail
          refine (of_raw 3 0 none 0 0 (Ty.bK j) B m d _).mono ?_
          rintro e w2 ⟨N, rfl, hN, hc, hb⟩
          have hX2 := HX.out.later hb
          have HC := Lib.hid hc
          clear x0 x1 p0 p1 HX hc
          obtain ⟨x0, x1, p0, p1, hl2⟩ := hX2.own
          have HX2 := Lib.hid hX2
          clear hX2 hb
          go_wp2_with fail
          go_roundw
          case rel => exact ⟨j + 1, _, _, _, by go_num, by omega, HX2.out.putB HC.out (by (try simp at hN); omega)⟩
          case measure => simp [intOf]; omega
        · have hi199 : j = 199 := by omega
          rw [show (j : Int) + 1 = 200 by omega]
          subst hi199
          have hB : Box wa 3 (Ty.bF 199) B m d wr := hX
          have HB := Lib.hid hB
          have HS2 := Lib.hid (HS1.out.below (hB.below.mono (Nat.le_refl _)))
          have HB2 := Lib.hid (HB1.out.trans (hB.below.mono HB1.out.size))
          have HA2 := Lib.hid (HA.out.later hB.below)
          obtain ⟨x0, x1, p0, p1, hl⟩ := hB.own
          clear hX hB h199 hj HA HS1 HB1 p0 p1
          rename World => wb
          go_wp2_with fail
          refine (of_any 3 (by omega) 3 (Ty.bF 199) B m d 0 .nil none 0 0 _ HB.out.is (Ty.is_nil _ 0 (by omega) (by omega))).mono ?_
          rintro e w2 ⟨N, rfl, hN, hIc, hb⟩
          have HIC := Lib.hid (hIc.alloc (.cells #[.int .i8 3, .slice (some ⟨N, 0, none⟩) 2 2] 25))
          have hb3 : Below wb.heap.size wb (w2.alloc (.cells #[.int .i8 3, .slice (some ⟨N, 0, none⟩) 2 2] 25)) := hb.alloc hb.size _
          have HA3 := Lib.hid (HA2.out.later hb3)
          have HB3 := Lib.hid (HB.out.later hb3)
          have HS3 := Lib.hid (HS2.out.below hb3)
          have HL3 := Lib.hid (HB2.out.trans (hb3.mono HB2.out.size))
          have HC3 := Lib.hid (heap_new w2 (.cells #[.int .i8 3, .slice (some ⟨N, 0, none⟩) 2 2] 25))
          clear hb3 hIc hb HB HA2 HB2 HS2 x0 x1 hl hN
          go_upto_region 12 with fail
          generalize w2.alloc (.cells #[.int .i8 3, .slice (some ⟨N, 0, none⟩) 2 2] 25) = wc at *
          have HNewD := Lib.hid (Box.newD wc)
          go_wp2_with fail
          go_loopw [7] (fun v7 wr => ∃ (l : Nat) (D : Option Addr) (q g : Nat), v7 = .int .i64 l ∧ l ≤ 5000 ∧ Box wc (Ty.dK l) (Ty.dF l) D q g wr) (fun v _ => 5000 - (intOf v).toNat)
          case atStart => exact ⟨0, none, 0, 0, rfl, by omega, HNewD.out⟩
          case round =>
            obtain ⟨l, D, q, g, rfl, hj, hX⟩ := hrel
            clear HNewD
            by_cases hlt : (l : Int) < 5000
            · obtain ⟨x0, x1, p0, p1, hl⟩ := hX.own
              have HX := Lib.hid hX
              clear hX
              go_wp2_with fail
              refine (of_raw 5 (Ty.dK l) D q g 0 none 0 0 _).mono ?_
              rintro e w2 ⟨N, rfl, hN, hc, hb⟩
              have hX2 := HX.out.later hb
              have HC := Lib.hid hc
              clear x0 x1 p0 p1 HX hc
              obtain ⟨x0, x1, p0, p1, hl2⟩ := hX2.own
              have HX2 := Lib.hid hX2
              clear hX2 hb
              go_wp2_with fail
              go_roundw
              case rel => exact ⟨l + 1, _, _, _, by go_num, by omega, HX2.out.putD HC.out (by (try simp at hN); omega)⟩
              case measure => simp [intOf]; omega
            · have hl5 : l = 5000 := by omega
              rw [show (l : Int) = 5000 by omega]
              subst hl5
              have hD : Box wc 5 (Ty.dF 5000) D q g wr := hX
              have hbw := hD.below
              have hA4 := HA3.out.later hbw
              have hB4 := HB3.out.later hbw
              have hS4 := HS3.out.below hbw
              have hL4 := HL3.out.trans (hbw.mono HL3.out.size)
              have hC4 := heap_below hbw (heap_lt HC3.out) HC3.out
              have hI4 := HIC.out.below hbw
              clear hX HA3 HB3 HS3 HL3 HC3 HIC hbw hlt hj
              rename World => wd
              obtain ⟨fa1, fa2, fa3, fa4, fa5⟩ := Ty.a_facts
              obtain ⟨fb1, fb2⟩ := Ty.b_facts
              have fc := Ty.c_facts
              obtain ⟨fd1, fd2⟩ := Ty.d_facts
              have HT := text_any 4 (Ty.aF 60) A n c wd hA4.is hS4
              rw [fa1, fa4, show ((32 : Nat) : Int) = 32 from rfl] at HT
              have HTT := Lib.hid HT
              obtain ⟨x0, x1, _, _, hl⟩ := hA4.own
              have HA4 := Lib.hid hA4
              have HB4 := Lib.hid hB4
              have HS4 := Lib.hid hS4
              have HL4 := Lib.hid hL4
              have HC4 := Lib.hid hC4
              have HI4 := Lib.hid hI4
              have HD4 := Lib.hid hD
              clear HT hA4 hB4 hS4 hL4 hC4 hI4 hD
              go_wp2_with fail
              refine HTT.out.mono ?_
              rintro e W ⟨rfl, hb⟩
              have hA5 := HA4.out.later hb
              have hB5 := HB4.out.later hb
              have hD5 := HD4.out.later hb
              have hS5 := HS4.out.below hb
              have hI5 := HI4.out.below hb
              have HL5 := Lib.hid (HL4.out.trans (hb.mono HL4.out.size))
              obtain ⟨a0, a1, _, _, hal⟩ := hA5.own
              obtain ⟨b0, b1, _, _, hbl⟩ := hB5.own
              obtain ⟨d0, d1, _, _, hdl⟩ := hD5.own
              obtain ⟨c0, c1, _, _, hcl⟩ := own2 (heap_below hb (heap_lt HC4.out) HC4.out)
              have IA := hA5.is
              have IB := hB5.is
              have ID := hD5.is
              have C1 := Lib.hid (fun (u : World) (hE : Below W.heap.size W u) => check_any 4 (Ty.aF 60) A n c u (IA.below hE) (hS5.below hE))
              have C2 := Lib.hid (fun (u : World) (hE : Below W.heap.size W u) => nodes_any 4 (Ty.aF 60) A n c u (IA.below hE))
              have C3 := Lib.hid (fun (u : World) (hE : Below W.heap.size W u) => depth_any 4 (Ty.aF 60) A n c u (IA.below hE))
              have C4 := Lib.hid (fun (u : World) (hE : Below W.heap.size W u) => check_any 3 (Ty.bF 199) B m d u (IB.below hE) (hS5.below hE))
              have C5 := Lib.hid (fun (u : World) (hE : Below W.heap.size W u) => depth_any 3 (Ty.bF 199) B m d u (IB.below hE))
              have C6 := Lib.hid (fun (u : World) (hE : Below W.heap.size W u) => check_any 3 (Ty.two 3 (Ty.bF 199) 0 .nil) (some ⟨N, 0, none⟩) 2 2 u (hI5.below hE) (hS5.below hE))
              have C7 := Lib.hid (fun (u : World) (hE : Below W.heap.size W u) => check_any 5 (Ty.dF 5000) D q g u (ID.below hE) (hS5.below hE))
              have C8 := Lib.hid (fun (u : World) (hE : Below W.heap.size W u) => depth_any 5 (Ty.dF 5000) D q g u (ID.below hE))
              have C9 := Lib.hid (fun (u : World) (hE : Below W.heap.size W u) => same_any 4 (Ty.aF 60) A n c 4 (Ty.aF 60) A n c u (IA.below hE) (IA.below hE) (hS5.below hE))
              have C10 := Lib.hid (fun (u : World) (hE : Below W.heap.size W u) => wakes_any u (hS5.below hE))
              rw [fa1, show ((32 : Nat) : Int) = 32 from rfl] at C1
              rw [fa2, show ((8193 : Nat) : Int) = 8193 from rfl] at C2
              rw [fa3, show ((201 : Nat) : Int) = 201 from rfl] at C3
              rw [fb1, show ((0 : Nat) : Int) = 0 from rfl] at C4
              rw [fb2, show ((200 : Nat) : Int) = 200 from rfl] at C5
              rw [fc, show ((31 : Nat) : Int) = 31 from rfl] at C6
              rw [fd1, show ((32 : Nat) : Int) = 32 from rfl] at C7
              rw [fd2, show ((201 : Nat) : Int) = 201 from rfl] at C8
              rw [fa5] at C9
              clear hA5 hB5 hD5 hS5 hI5 IA IB ID HA4 HB4 HD4 HS4 HI4 HC4 HL4 HTT fa1 fa2 fa3 fa4 fa5 fb1 fb2 fc fd1 fd2 hb x0 x1 hl hal hbl hdl hcl
              have E : Below W.heap.size W W := Below.refl _ _
              go_wp2_with fail
              refine (C1.out _ E).mono ?_
              rintro e v1 ⟨rfl, hb⟩
              have E := E.trans (hb.mono E.size)
              obtain ⟨a0, a1, b0, b1⟩ := keep4 a0 a1 b0 b1 hb
              obtain ⟨c0, c1, d0, d1⟩ := keep4 c0 c1 d0 d1 hb
              clear hb
              go_wp2_with fail
              refine (C2.out _ E).mono ?_
              rintro e v2 ⟨rfl, hb⟩
              have E := E.trans (hb.mono E.size)
              obtain ⟨a0, a1, b0, b1⟩ := keep4 a0 a1 b0 b1 hb
              obtain ⟨c0, c1, d0, d1⟩ := keep4 c0 c1 d0 d1 hb
              clear hb
              go_wp2_with fail
              refine (C3.out _ E).mono ?_
              rintro e v3 ⟨rfl, hb⟩
              have E := E.trans (hb.mono E.size)
              obtain ⟨a0, a1, b0, b1⟩ := keep4 a0 a1 b0 b1 hb
              obtain ⟨c0, c1, d0, d1⟩ := keep4 c0 c1 d0 d1 hb
              clear hb
              go_wp2_with fail
              refine (C4.out _ E).mono ?_
              rintro e v4 ⟨rfl, hb⟩
              have E := E.trans (hb.mono E.size)
              obtain ⟨a0, a1, b0, b1⟩ := keep4 a0 a1 b0 b1 hb
              obtain ⟨c0, c1, d0, d1⟩ := keep4 c0 c1 d0 d1 hb
              clear hb
              go_wp2_with fail
              refine (C5.out _ E).mono ?_
              rintro e v5 ⟨rfl, hb⟩
              have E := E.trans (hb.mono E.size)
              obtain ⟨a0, a1, b0, b1⟩ := keep4 a0 a1 b0 b1 hb
              obtain ⟨c0, c1, d0, d1⟩ := keep4 c0 c1 d0 d1 hb
              clear hb
              go_wp2_with fail
              refine (C6.out _ E).mono ?_
              rintro e v6 ⟨rfl, hb⟩
              have E := E.trans (hb.mono E.size)
              obtain ⟨a0, a1, b0, b1⟩ := keep4 a0 a1 b0 b1 hb
              obtain ⟨c0, c1, d0, d1⟩ := keep4 c0 c1 d0 d1 hb
              clear hb
              go_wp2_with fail
              refine (C7.out _ E).mono ?_
              rintro e v7 ⟨rfl, hb⟩
              have E := E.trans (hb.mono E.size)
              obtain ⟨a0, a1, b0, b1⟩ := keep4 a0 a1 b0 b1 hb
              obtain ⟨c0, c1, d0, d1⟩ := keep4 c0 c1 d0 d1 hb
              clear hb
              go_wp2_with fail
              refine (C8.out _ E).mono ?_
              rintro e v8 ⟨rfl, hb⟩
              have E := E.trans (hb.mono E.size)
              obtain ⟨a0, a1, b0, b1⟩ := keep4 a0 a1 b0 b1 hb
              obtain ⟨c0, c1, d0, d1⟩ := keep4 c0 c1 d0 d1 hb
              clear hb
              go_wp2_with fail
              refine (C9.out _ E).mono ?_
              rintro e v9 ⟨rfl, hb⟩
              have E := E.trans (hb.mono E.size)
              obtain ⟨a0, a1, b0, b1⟩ := keep4 a0 a1 b0 b1 hb
              obtain ⟨c0, c1, d0, d1⟩ := keep4 c0 c1 d0 d1 hb
              clear hb
              go_wp2_with fail
              refine (C10.out _ E).mono ?_
              rintro e v10 ⟨rfl, hb⟩
              have E := E.trans (hb.mono E.size)
              clear hb
              go_wp2_with fail
              go_ret
              exact ⟨rfl, HL5.out.trans (E.mono HL5.out.size)⟩
end Go.Proofs.YtgjmkijamcniiaaDoor
