/-
  order.Terms. P7.3: any two terms: whether the first is the second one with less told. The law's walk.
-/
import Derived.Test.YtfkbdpehdabepaaGreatDoorOrT1
import Derived.Test.YtfkbdpehdabepaaGreatDoorLow
import Derived.Deep.RegionHeld3
import Derived.Deep.DeepCutAuto
import Derived.Test.YtfkbdpehdabepaaGreatDoorM9
import Derived.Test.YtfkbdpehdabepaaGreatDoorOrT3
namespace Go.Proofs.YtfkbdpehdabepaaGreatDoor
open Go.RowKit

theorem Tm.bare_tell (h : Hd) (kids : Tm) (h' : Hd) (kids' : Tm) (h0 : Tm.chk h kids = 0) (h1 : Tm.chk h' kids' = 0) : Tm.tellT h kids h' kids' = Tm.leT (Tm.cnt h) (Tm.bF kids) (Tm.cnt h') (Tm.bF kids') := by
  unfold Tm.tellT
  rw [h0, h1, Tm.leT_bare]
  rfl
set_option maxHeartbeats 8000000 in
set_option maxRecDepth 100000 in
theorem oTerms_any (h : Hd) (kids : Tm) (p : Pl) (h' : Hd) (kids' : Tm) (p' : Pl) (w : World) (hIs : Tm.Is w h kids p) (hIs' : Tm.Is w h' kids' p') (hG : TGlob w) :
    Calls Tryz.prog 18 #[.agg #[.int .i8 h.kind, .string h.name, .string h.arg, .int .i64 h.num, .int .i8 h.tk, .slice p.TA p.tn p.tc, .int .i8 h.uk, .slice p.UA p.un p.uc, .int .i64 h.label, .int .i64 h.pos, .slice p.A p.n p.c], .agg #[.int .i8 h'.kind, .string h'.name, .string h'.arg, .int .i64 h'.num, .int .i8 h'.tk, .slice p'.TA p'.tn p'.tc, .int .i8 h'.uk, .slice p'.UA p'.un p'.uc, .int .i64 h'.label, .int .i64 h'.pos, .slice p'.A p'.n p'.c]] w fun e w' => e = .returned (.bool (Tm.tellT h kids h' kids')) ∧ Below w.heap.size w w' := by
  obtain ⟨r0, r1, _⟩ := two_new w (.cells #[.int .i8 h.kind, .string h.name, .string h.arg, .int .i64 h.num, .int .i8 h.tk, .slice p.TA p.tn p.tc, .int .i8 h.uk, .slice p.UA p.un p.uc, .int .i64 h.label, .int .i64 h.pos, .slice p.A p.n p.c] 28) (.cells #[.int .i8 h'.kind, .string h'.name, .string h'.arg, .int .i64 h'.num, .int .i8 h'.tk, .slice p'.TA p'.tn p'.tc, .int .i8 h'.uk, .slice p'.UA p'.un p'.uc, .int .i64 h'.label, .int .i64 h'.pos, .slice p'.A p'.n p'.c] 28)
  have hB0 : Below w.heap.size w ((w.alloc (.cells #[.int .i8 h.kind, .string h.name, .string h.arg, .int .i64 h.num, .int .i8 h.tk, .slice p.TA p.tn p.tc, .int .i8 h.uk, .slice p.UA p.un p.uc, .int .i64 h.label, .int .i64 h.pos, .slice p.A p.n p.c] 28)).alloc (.cells #[.int .i8 h'.kind, .string h'.name, .string h'.arg, .int .i64 h'.num, .int .i8 h'.tk, .slice p'.TA p'.tn p'.tc, .int .i8 h'.uk, .slice p'.UA p'.un p'.uc, .int .i64 h'.label, .int .i64 h'.pos, .slice p'.A p'.n p'.c] 28)) := ((Below.refl _ _).alloc (Nat.le_refl _) _).alloc (by simp) _
  generalize hw1 : (w.alloc (.cells #[.int .i8 h.kind, .string h.name, .string h.arg, .int .i64 h.num, .int .i8 h.tk, .slice p.TA p.tn p.tc, .int .i8 h.uk, .slice p.UA p.un p.uc, .int .i64 h.label, .int .i64 h.pos, .slice p.A p.n p.c] 28)).alloc (.cells #[.int .i8 h'.kind, .string h'.name, .string h'.arg, .int .i64 h'.num, .int .i8 h'.tk, .slice p'.TA p'.tn p'.tc, .int .i8 h'.uk, .slice p'.UA p'.un p'.uc, .int .i64 h'.label, .int .i64 h'.pos, .slice p'.A p'.n p'.c] 28) = w1 at *
  have HW := Lib.hid hw1
  have HBC := Lib.hid hB0
  have HX := Lib.hid r0
  have HY := Lib.hid r1
  clear r0 r1 hw1
  have D : Below w1.heap.size w1 w1.drew := (Below.refl _ _).drew
  have CA := Lib.hid (fun (W : World) (hb : Below w1.heap.size w1 W) => tcheck_any h kids p W ((hIs.below hB0).below hb) ((hG.below hB0).below hb))
  have CB := Lib.hid (fun (W : World) (hb : Below w1.heap.size w1 W) => tcheck_any h' kids' p' W ((hIs'.below hB0).below hb) ((hG.below hB0).below hb))
  have CX := Lib.hid (fun (W : World) (hb : Below w1.heap.size w1 W) => tbare_any h kids p W ((hIs.below hB0).below hb) ((hG.below hB0).below hb))
  have CY := Lib.hid (fun (W : World) (hb : Below w1.heap.size w1 W) => tbare_any h' kids' p' W ((hIs'.below hB0).below hb) ((hG.below hB0).below hb))
  have HXE := Lib.hid (RowEl.of_heap HX.out)
  have HYE := Lib.hid (RowEl.of_heap HY.out)
  obtain ⟨q0, q1, q2, q3, q4, q5, q6, q7, q8, q9, q10, ql⟩ := own11 HX.out
  obtain ⟨y0, y1, y2, y3, y4, y5, y6, y7, y8, y9, y10, yl⟩ := own11 HY.out
  clear hIs hIs' hB0 hG HX HY
  by_cases h0 : Tm.chk h kids = 0
  · by_cases h1 : Tm.chk h' kids' = 0
    · rw [Tm.bare_tell h kids h' kids' h0 h1]
      have t1 := Tm.tyT_bare h0
      have t2 := Tm.tyT_bare h1
      have CL := Lib.hid (fun (q q' : Pl) (W : World) h3 h4 => lessTerm_any (Tm.nodes (Tm.bF kids) + 1) (Tm.cnt h) (Tm.bF kids) q (Tm.cnt h') (Tm.bF kids') q' W (Nat.lt_succ_self _) h3 h4 t1 t2)
      unfold BareP Tm.bH Tm.bK at CX CY
      simp only [if_pos h0] at CX
      simp only [if_pos h1] at CY
      rw [h0] at CA
      rw [h1] at CB
      generalize Tm.leT (Tm.cnt h) (Tm.bF kids) (Tm.cnt h') (Tm.bF kids') = RE at *
      generalize Tm.cnt h = a at *
      generalize Tm.cnt h' = b at *
      generalize Tm.bF kids = ka at *
      generalize Tm.bF kids' = kb at *
      clear h0 h1 t1 t2
      go_enter Tryz.func18, Tryz.ntmps18
      go_upto_region 1 with fail
      rw [HW.out]
      go_region_held3 (fun w' => (w'.cell? ⟨w.heap.size, 0, none⟩ = some (.int .i8 h.kind) ∧ w'.cell? ⟨w.heap.size, 1, none⟩ = some (.string h.name) ∧ w'.cell? ⟨w.heap.size, 2, none⟩ = some (.string h.arg) ∧ w'.cell? ⟨w.heap.size, 3, none⟩ = some (.int .i64 h.num) ∧ w'.cell? ⟨w.heap.size, 4, none⟩ = some (.int .i8 h.tk) ∧ w'.cell? ⟨w.heap.size, 5, none⟩ = some (.slice p.TA p.tn p.tc) ∧ w'.cell? ⟨w.heap.size, 6, none⟩ = some (.int .i8 h.uk) ∧ w'.cell? ⟨w.heap.size, 7, none⟩ = some (.slice p.UA p.un p.uc) ∧ w'.cell? ⟨w.heap.size, 8, none⟩ = some (.int .i64 h.label) ∧ w'.cell? ⟨w.heap.size, 9, none⟩ = some (.int .i64 h.pos) ∧ w'.cell? ⟨w.heap.size, 10, none⟩ = some (.slice p.A p.n p.c)) ∧ w'.cell? ⟨w.heap.size + 1, 0, none⟩ = some (.int .i8 h'.kind) ∧ w'.cell? ⟨w.heap.size + 1, 1, none⟩ = some (.string h'.name) ∧ w'.cell? ⟨w.heap.size + 1, 2, none⟩ = some (.string h'.arg) ∧ w'.cell? ⟨w.heap.size + 1, 3, none⟩ = some (.int .i64 h'.num) ∧ w'.cell? ⟨w.heap.size + 1, 4, none⟩ = some (.int .i8 h'.tk) ∧ w'.cell? ⟨w.heap.size + 1, 5, none⟩ = some (.slice p'.TA p'.tn p'.tc) ∧ w'.cell? ⟨w.heap.size + 1, 6, none⟩ = some (.int .i8 h'.uk) ∧ w'.cell? ⟨w.heap.size + 1, 7, none⟩ = some (.slice p'.UA p'.un p'.uc) ∧ w'.cell? ⟨w.heap.size + 1, 8, none⟩ = some (.int .i64 h'.label) ∧ w'.cell? ⟨w.heap.size + 1, 9, none⟩ = some (.int .i64 h'.pos) ∧ w'.cell? ⟨w.heap.size + 1, 10, none⟩ = some (.slice p'.A p'.n p'.c))
        (exact ⟨HXE.out.below D, HYE.out.below D⟩)
        (first
          | (go_at_call 12; (with_reducible refine (CA.out _ D).mono ?_); rintro e u ⟨rfl, hb⟩; have D := D.trans (hb.mono D.size); clear hb)
          | (go_at_call 12; (with_reducible refine (CB.out _ D).mono ?_); rintro e u ⟨rfl, hb⟩; have D := D.trans (hb.mono D.size); clear hb)
          | (go_at_call 10; (with_reducible refine (CX.out _ D).mono ?_); rintro e uX ⟨pX, rfl, iX, hb⟩; have D := D.trans (hb.mono D.size); (first | have iY := iY.below hb | skip); (first | have HIY := Lib.hid iY | skip); have HIX := Lib.hid iX; clear hb)
          | (go_at_call 10; (with_reducible refine (CY.out _ D).mono ?_); rintro e uY ⟨pY, rfl, iY, hb⟩; have D := D.trans (hb.mono D.size); (first | have iX := iX.below hb | skip); (first | have HIX := Lib.hid iX | skip); have HIY := Lib.hid iY; clear hb)
          | (go_at_call 47; (with_reducible refine (CL.out _ _ _ HIX.out HIY.out).mono ?_); rintro e u ⟨rfl, hb⟩; have D := D.trans (hb.mono D.size); clear hb))
      all_goals
        go_wp2_with fail
        go_ret
        exact ⟨rfl, HBC.out.trans (D.mono HBC.out.size)⟩
    · have hc : (((Tm.chk h' kids' : Nat) : Int) == 0) = false := by simp; omega
      rw [show Tm.tellT h kids h' kids' = false by unfold Tm.tellT; rw [hc]; simp]
      rw [h0] at CA
      generalize Tm.chk h' kids' = C at *
      clear CX CY h0 h1
      go_enter Tryz.func18, Tryz.ntmps18
      go_upto_region 1 with fail
      rw [HW.out]
      have Q0 := later_cell q0
      have Q1 := later_cell q1
      have Q2 := later_cell q2
      have Q3 := later_cell q3
      have Q4 := later_cell q4
      have Q5 := later_cell q5
      have Q6 := later_cell q6
      have Q7 := later_cell q7
      have Q8 := later_cell q8
      have Q9 := later_cell q9
      have Q10 := later_cell q10
      have Y0 := later_cell y0
      have Y1 := later_cell y1
      have Y2 := later_cell y2
      have Y3 := later_cell y3
      have Y4 := later_cell y4
      have Y5 := later_cell y5
      have Y6 := later_cell y6
      have Y7 := later_cell y7
      have Y8 := later_cell y8
      have Y9 := later_cell y9
      have Y10 := later_cell y10
      clear D q0 q1 q2 q3 q4 q5 q6 q7 q8 q9 q10 y0 y1 y2 y3 y4 y5 y6 y7 y8 y9 y10 ql yl
      refine wp_region_low (by kernel_rfl) (by kernel_rfl) ?_
      repeat
        first
          | go_big_quiet_skip
          | (go_big_quiet_want
             go_big_quiet_op
             first
               | go_big_quiet_on
               | (refine ⟨_, fun _ => rfl, ?_⟩
                  go_big_quiet_on)
               | (apply Exists.intro
                  refine ⟨fun h => ?_, ?_⟩
                  · first
                      | (go_at_call 12; with_reducible exact call_low h (CA.out h.u h.low))
                      | (go_at_call 12; with_reducible exact call_low h (CB.out h.u h.low))
                  go_big_quiet_on))
      refine wpQuiet_nil ?_
      rintro w9 ⟨⟨_, E9⟩, rfl⟩
      go_wp2_with fail
      go_ret
      exact ⟨rfl, HBC.out.trans (E9.mono HBC.out.size)⟩
  · have hc : (((Tm.chk h kids : Nat) : Int) == 0) = false := by simp; omega
    rw [show Tm.tellT h kids h' kids' = false by unfold Tm.tellT; rw [hc]; rfl]
    generalize Tm.chk h kids = C at *
    clear CX CY CB h0
    go_enter Tryz.func18, Tryz.ntmps18
    go_upto_region 1 with fail
    rw [HW.out]
    have Q0 := later_cell q0
    have Q1 := later_cell q1
    have Q2 := later_cell q2
    have Q3 := later_cell q3
    have Q4 := later_cell q4
    have Q5 := later_cell q5
    have Q6 := later_cell q6
    have Q7 := later_cell q7
    have Q8 := later_cell q8
    have Q9 := later_cell q9
    have Q10 := later_cell q10
    have Y0 := later_cell y0
    have Y1 := later_cell y1
    have Y2 := later_cell y2
    have Y3 := later_cell y3
    have Y4 := later_cell y4
    have Y5 := later_cell y5
    have Y6 := later_cell y6
    have Y7 := later_cell y7
    have Y8 := later_cell y8
    have Y9 := later_cell y9
    have Y10 := later_cell y10
    clear D q0 q1 q2 q3 q4 q5 q6 q7 q8 q9 q10 y0 y1 y2 y3 y4 y5 y6 y7 y8 y9 y10 ql yl
    refine wp_region_low (by kernel_rfl) (by kernel_rfl) ?_
    repeat
      first
        | go_big_quiet_skip
        | (go_big_quiet_want
           go_big_quiet_op
           first
             | go_big_quiet_on
             | (refine ⟨_, fun _ => rfl, ?_⟩
                go_big_quiet_on)
             | (apply Exists.intro
                refine ⟨fun h => ?_, ?_⟩
                · first
                    | (go_at_call 12; with_reducible exact call_low h (CA.out h.u h.low))
                go_big_quiet_on))
    refine wpQuiet_nil ?_
    rintro w9 ⟨⟨_, E9⟩, rfl⟩
    go_wp2_with fail
    go_ret
    exact ⟨rfl, HBC.out.trans (E9.mono HBC.out.size)⟩
end Go.Proofs.YtfkbdpehdabepaaGreatDoor
namespace Go.Proofs.YtfkbdpehdabepaaGreatDoor
open Go.RowKit

theorem yes_any (W : World) (hG : TGlob W) : Calls Tryz.prog 18 #[.agg #[.int .i8 2, .string ⟨#[]⟩, .string ⟨#[]⟩, .int .i64 0, .int .i8 0, .slice none 0 0, .int .i8 0, .slice none 0 0, .int .i64 0, .int .i64 0, .slice none 0 0], .agg #[.int .i8 2, .string ⟨#[]⟩, .string ⟨#[]⟩, .int .i64 0, .int .i8 0, .slice none 0 0, .int .i8 0, .slice none 0 0, .int .i64 0, .int .i64 0, .slice none 0 0]] W fun e w' => e = .returned (.bool true) ∧ Below W.heap.size W w' := by
  have hz : Ty.Is W 0 .nil none 0 0 := ⟨trivial, rfl, Nat.le_refl _, Nat.zero_le _, by omega, by omega⟩
  have hI : Tm.Is W (⟨2, ⟨#[]⟩, ⟨#[]⟩, 0, 0, .nil, 0, .nil, 0, 0⟩ : Hd) .nil ⟨none, 0, 0, none, 0, 0, none, 0, 0⟩ := ⟨⟨hz, hz, rfl, Nat.le_refl _, Nat.zero_le _, by decide, by decide, by decide, by decide, by decide, by decide⟩, trivial⟩
  have q := oTerms_any (⟨2, ⟨#[]⟩, ⟨#[]⟩, 0, 0, .nil, 0, .nil, 0, 0⟩ : Hd) .nil ⟨none, 0, 0, none, 0, 0, none, 0, 0⟩ (⟨2, ⟨#[]⟩, ⟨#[]⟩, 0, 0, .nil, 0, .nil, 0, 0⟩ : Hd) .nil ⟨none, 0, 0, none, 0, 0, none, 0, 0⟩ W hI hI hG
  rw [show Tm.tellT (⟨2, ⟨#[]⟩, ⟨#[]⟩, 0, 0, .nil, 0, .nil, 0, 0⟩ : Hd) .nil (⟨2, ⟨#[]⟩, ⟨#[]⟩, 0, 0, .nil, 0, .nil, 0, 0⟩ : Hd) .nil = true by decide] at q
  exact q

set_option maxHeartbeats 8000000 in
set_option maxRecDepth 100000 in
theorem law_OrderTerms (h : Hd) (kids : Tm) (p : Pl) (h' : Hd) (kids' : Tm) (p' : Pl) (w : World) (hIs : Tm.Is w h kids p) (hIs' : Tm.Is w h' kids' p') (hG : TGlob w) :
    Calls Tryz.prog 5 #[.agg #[.int .i8 h.kind, .string h.name, .string h.arg, .int .i64 h.num, .int .i8 h.tk, .slice p.TA p.tn p.tc, .int .i8 h.uk, .slice p.UA p.un p.uc, .int .i64 h.label, .int .i64 h.pos, .slice p.A p.n p.c], .agg #[.int .i8 h'.kind, .string h'.name, .string h'.arg, .int .i64 h'.num, .int .i8 h'.tk, .slice p'.TA p'.tn p'.tc, .int .i8 h'.uk, .slice p'.UA p'.un p'.uc, .int .i64 h'.label, .int .i64 h'.pos, .slice p'.A p'.n p'.c]] w fun e w' => e = .returned (.bool true) ∧ Below w.heap.size w w' := by
  obtain ⟨r0, r1, _⟩ := two_new w (.cells #[.int .i8 h.kind, .string h.name, .string h.arg, .int .i64 h.num, .int .i8 h.tk, .slice p.TA p.tn p.tc, .int .i8 h.uk, .slice p.UA p.un p.uc, .int .i64 h.label, .int .i64 h.pos, .slice p.A p.n p.c] 28) (.cells #[.int .i8 h'.kind, .string h'.name, .string h'.arg, .int .i64 h'.num, .int .i8 h'.tk, .slice p'.TA p'.tn p'.tc, .int .i8 h'.uk, .slice p'.UA p'.un p'.uc, .int .i64 h'.label, .int .i64 h'.pos, .slice p'.A p'.n p'.c] 28)
  have hB0 : Below w.heap.size w ((w.alloc (.cells #[.int .i8 h.kind, .string h.name, .string h.arg, .int .i64 h.num, .int .i8 h.tk, .slice p.TA p.tn p.tc, .int .i8 h.uk, .slice p.UA p.un p.uc, .int .i64 h.label, .int .i64 h.pos, .slice p.A p.n p.c] 28)).alloc (.cells #[.int .i8 h'.kind, .string h'.name, .string h'.arg, .int .i64 h'.num, .int .i8 h'.tk, .slice p'.TA p'.tn p'.tc, .int .i8 h'.uk, .slice p'.UA p'.un p'.uc, .int .i64 h'.label, .int .i64 h'.pos, .slice p'.A p'.n p'.c] 28)) := ((Below.refl _ _).alloc (Nat.le_refl _) _).alloc (by simp) _
  generalize hw1 : (w.alloc (.cells #[.int .i8 h.kind, .string h.name, .string h.arg, .int .i64 h.num, .int .i8 h.tk, .slice p.TA p.tn p.tc, .int .i8 h.uk, .slice p.UA p.un p.uc, .int .i64 h.label, .int .i64 h.pos, .slice p.A p.n p.c] 28)).alloc (.cells #[.int .i8 h'.kind, .string h'.name, .string h'.arg, .int .i64 h'.num, .int .i8 h'.tk, .slice p'.TA p'.tn p'.tc, .int .i8 h'.uk, .slice p'.UA p'.un p'.uc, .int .i64 h'.label, .int .i64 h'.pos, .slice p'.A p'.n p'.c] 28) = w1 at *
  have HW := Lib.hid hw1
  have HBC := Lib.hid hB0
  have HX := Lib.hid r0
  have HY := Lib.hid r1
  clear r0 r1 hw1
  have D : Below w1.heap.size w1 w1.drew := (Below.refl _ _).drew
  have CA := Lib.hid (fun (W : World) (hb : Below w1.heap.size w1 W) => oTerms_any h kids p h' kids' p' W ((hIs.below hB0).below hb) ((hIs'.below hB0).below hb) ((hG.below hB0).below hb))
  have CB := Lib.hid (fun (W : World) (hb : Below w1.heap.size w1 W) => rTerms_any h kids p h' kids' p' W ((hIs.below hB0).below hb) ((hIs'.below hB0).below hb))
  have CY := Lib.hid (fun (W : World) (hb : Below w1.heap.size w1 W) => yes_any W ((hG.below hB0).below hb))
  have HXE := Lib.hid (RowEl.of_heap HX.out)
  have HYE := Lib.hid (RowEl.of_heap HY.out)
  generalize Tm.tellT h kids h' kids' = RE at *
  have hRR : (RE == RE) = true := by simp
  obtain ⟨q0, q1, q2, q3, q4, q5, q6, q7, q8, q9, q10, ql⟩ := own11 HX.out
  obtain ⟨y0, y1, y2, y3, y4, y5, y6, y7, y8, y9, y10, yl⟩ := own11 HY.out
  clear hIs hIs' hB0 hG HX HY
  go_enter Tryz.func5, Tryz.ntmps5
  go_upto_region 1 with fail
  rw [HW.out]
  have Q0 := later_cell q0
  have Q1 := later_cell q1
  have Q2 := later_cell q2
  have Q3 := later_cell q3
  have Q4 := later_cell q4
  have Q5 := later_cell q5
  have Q6 := later_cell q6
  have Q7 := later_cell q7
  have Q8 := later_cell q8
  have Q9 := later_cell q9
  have Q10 := later_cell q10
  have Y0 := later_cell y0
  have Y1 := later_cell y1
  have Y2 := later_cell y2
  have Y3 := later_cell y3
  have Y4 := later_cell y4
  have Y5 := later_cell y5
  have Y6 := later_cell y6
  have Y7 := later_cell y7
  have Y8 := later_cell y8
  have Y9 := later_cell y9
  have Y10 := later_cell y10
  clear D q0 q1 q2 q3 q4 q5 q6 q7 q8 q9 q10 y0 y1 y2 y3 y4 y5 y6 y7 y8 y9 y10 ql yl
  refine wp_region_low (by kernel_rfl) (by kernel_rfl) ?_
  repeat
    first
      | go_big_quiet_skip
      | (go_big_quiet_want
         go_big_quiet_op
         first
           | go_big_quiet_on
           | (refine ⟨_, fun _ => rfl, ?_⟩
              go_big_quiet_on)
           | (apply Exists.intro
              refine ⟨fun h => ?_, ?_⟩
              · first
                  | (go_at_call 18; with_reducible exact call_low h (CA.out h.u h.low))
                  | (go_at_call 19; with_reducible exact call_low h (CB.out h.u h.low))
                  | (go_at_call 18; with_reducible exact call_low h (CY.out h.u h.low))
              go_big_quiet_on))
  refine wpQuiet_nil ?_
  rintro w9 ⟨⟨_, E9⟩, rfl⟩
  go_wp2_with fail
  go_ret
  exact ⟨rfl, HBC.out.trans (E9.mono HBC.out.size)⟩
end Go.Proofs.YtfkbdpehdabepaaGreatDoor
