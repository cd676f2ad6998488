/-
  order.lessTerm.
-/
import Derived.Test.YtfkbdpehdabepaaGreatDoorOrT0
namespace Go.Proofs.YtfkbdpehdabepaaGreatDoor
open Go.RowKit

attribute [local go_sem ↓] Go.wp_at_zero Go.wp_at_succ
set_option maxHeartbeats 8000000 in
set_option maxRecDepth 100000 in
theorem lessTerm_any (K : Nat) : ∀ (h : Hd) (kids : Tm) (p : Pl) (h' : Hd) (kids' : Tm) (p' : Pl) (w : World), Tm.nodes kids < K → Tm.Is w h kids p → Tm.Is w h' kids' p' → Tm.tyT h kids = true → Tm.tyT h' kids' = true →
    Calls Tryz.prog 47 #[.agg #[.int .i8 h.kind, .string h.name, .string h.arg, .int .i64 h.num, .int .i8 h.tk, .slice p.TA p.tn p.tc, .int .i8 h.uk, .slice p.UA p.un p.uc, .int .i64 h.label, .int .i64 h.pos, .slice p.A p.n p.c], .agg #[.int .i8 h'.kind, .string h'.name, .string h'.arg, .int .i64 h'.num, .int .i8 h'.tk, .slice p'.TA p'.tn p'.tc, .int .i8 h'.uk, .slice p'.UA p'.un p'.uc, .int .i64 h'.label, .int .i64 h'.pos, .slice p'.A p'.n p'.c]] w fun e w' => e = .returned (.bool (Tm.leT h kids h' kids')) ∧ Below w.heap.size w w' := by
  induction K with
  | zero => intro _ _ _ _ _ _ _ hK; omega
  | succ K ih =>
    intro h kids p h' kids' p' w hK hIs hIs' ht ht'
    have hB0 : Below w.heap.size w ((w.alloc (.cells #[.int .i8 h.kind, .string h.name, .string h.arg, .int .i64 h.num, .int .i8 h.tk, .slice p.TA p.tn p.tc, .int .i8 h.uk, .slice p.UA p.un p.uc, .int .i64 h.label, .int .i64 h.pos, .slice p.A p.n p.c] 28)).alloc (.cells #[.int .i8 h'.kind, .string h'.name, .string h'.arg, .int .i64 h'.num, .int .i8 h'.tk, .slice p'.TA p'.tn p'.tc, .int .i8 h'.uk, .slice p'.UA p'.un p'.uc, .int .i64 h'.label, .int .i64 h'.pos, .slice p'.A p'.n p'.c] 28)) := ((Below.refl _ _).alloc (Nat.le_refl _) _).alloc (by simp) _
    obtain ⟨r0, r1, r2⟩ := two_new w (.cells #[.int .i8 h.kind, .string h.name, .string h.arg, .int .i64 h.num, .int .i8 h.tk, .slice p.TA p.tn p.tc, .int .i8 h.uk, .slice p.UA p.un p.uc, .int .i64 h.label, .int .i64 h.pos, .slice p.A p.n p.c] 28) (.cells #[.int .i8 h'.kind, .string h'.name, .string h'.arg, .int .i64 h'.num, .int .i8 h'.tk, .slice p'.TA p'.tn p'.tc, .int .i8 h'.uk, .slice p'.UA p'.un p'.uc, .int .i64 h'.label, .int .i64 h'.pos, .slice p'.A p'.n p'.c] 28)
    have IH := Lib.hid ih
    have HA := Lib.hid (hIs.below hB0)
    have HA' := Lib.hid (hIs'.below hB0)
    unfold Tm.tyT at ht ht'
    simp only [Bool.and_eq_true] at ht ht'
    have HT := Lib.hid ht
    have HT' := Lib.hid ht'
    clear ih hIs hIs' ht ht'
    obtain ⟨b0, hk0⟩ : ∃ b, (h.kind == h'.kind) = b := ⟨_, rfl⟩
    obtain ⟨b1, hk1⟩ : ∃ b, (h.kind != 17) = b := ⟨_, rfl⟩
    obtain ⟨b2, hk2⟩ : ∃ b, (h.name.toList == h'.name.toList) = b := ⟨_, rfl⟩
    obtain ⟨b3, hk3⟩ : ∃ b, (h.arg.toList == h'.arg.toList) = b := ⟨_, rfl⟩
    obtain ⟨b4, hk4⟩ : ∃ b, (h.num == h'.num) = b := ⟨_, rfl⟩
    obtain ⟨b5, hk5⟩ : ∃ b, Ty.leT h.tk h.tkids h'.tk h'.tkids = b := ⟨_, rfl⟩
    obtain ⟨b6, hk6⟩ : ∃ b, Ty.leT h.uk h.ukids h'.uk h'.ukids = b := ⟨_, rfl⟩
    obtain ⟨b7, hk7⟩ : ∃ b, Tm.leF kids kids' = b := ⟨_, rfl⟩
    have hR : Tm.leT h kids h' kids' = ((b0 && (b1 && (b2 && (b3 && (b4 && (b5 && b6)))))) && b7) := by
      rw [← hk0, ← hk1, ← hk2, ← hk3, ← hk4, ← hk5, ← hk6, ← hk7]; rfl
    rw [hR]
    clear hR
    generalize hw1 : (w.alloc (.cells #[.int .i8 h.kind, .string h.name, .string h.arg, .int .i64 h.num, .int .i8 h.tk, .slice p.TA p.tn p.tc, .int .i8 h.uk, .slice p.UA p.un p.uc, .int .i64 h.label, .int .i64 h.pos, .slice p.A p.n p.c] 28)).alloc (.cells #[.int .i8 h'.kind, .string h'.name, .string h'.arg, .int .i64 h'.num, .int .i8 h'.tk, .slice p'.TA p'.tn p'.tc, .int .i8 h'.uk, .slice p'.UA p'.un p'.uc, .int .i64 h'.label, .int .i64 h'.pos, .slice p'.A p'.n p'.c] 28) = w1 at *
    have HW := Lib.hid hw1
    have HBC := Lib.hid hB0
    have HX := Lib.hid r0
    have HY := Lib.hid r1
    clear r0 r1 r2 hB0 hw1
    have C1 := Lib.hid (fun (W : World) (hb : Below w1.heap.size w1 W) => less_any (Ty.nodes h.tkids + 1) h.tk h.tkids p.TA p.tn p.tc h'.tk h'.tkids p'.TA p'.tn p'.tc W (Nat.lt_succ_self _) (HA.out.below hb).fit.ty (HA'.out.below hb).fit.ty HT.out.1.1 HT'.out.1.1)
    have C2 := Lib.hid (fun (W : World) (hb : Below w1.heap.size w1 W) => less_any (Ty.nodes h.ukids + 1) h.uk h.ukids p.UA p.un p.uc h'.uk h'.ukids p'.UA p'.un p'.uc W (Nat.lt_succ_self _) (HA.out.below hb).fit.to (HA'.out.below hb).fit.to HT.out.1.2 HT'.out.1.2)
    have C3 := Lib.hid (fun (W : World) (hb : Below w1.heap.size w1 W) => lt_equal_any 47 kids kids' p.A p'.A p.n p.c p'.n p'.c W (HA.out.below hb).lies HA.out.fit.n_eq HA.out.fit.n_le HA.out.fit.c_le (HA'.out.below hb).lies HA'.out.fit.n_eq HA'.out.fit.n_le HA'.out.fit.c_le HT.out.2 HT'.out.2
      (fun args W => by simp [go_sem]) (fun h1 kd p1 h2 kd' p2 W' h3 h4 h5 h6 h7 h8 => IH.out h1 kd p1 h2 kd' p2 W' (by omega) h4 h5 h6 h7))
    rw [hk5] at C1
    rw [hk6] at C2
    rw [hk7] at C3
    clear IH HA HA' HT HT' hk5 hk6 hk7
    have D0 : Below w1.heap.size w1 w1 := Below.refl _ _
    cases b0
    · obtain ⟨q0, q1, q2, q3, q4, q5, q6, q7, q8, q9, q10, ql⟩ := own11 (heap_below D0 (heap_lt HX.out) HX.out)
      obtain ⟨y0, y1, y2, y3, y4, y5, y6, y7, y8, y9, y10, yl⟩ := own11 (heap_below D0 (heap_lt HY.out) HY.out)
      go_enter Tryz.func47, Tryz.ntmps47
      go_wp2_with fail
      rw [HW.out]
      go_wp2_with fail
      go_ret
      exact ⟨rfl, HBC.out.trans (D0.mono HBC.out.size)⟩
    cases b1
    · obtain ⟨q0, q1, q2, q3, q4, q5, q6, q7, q8, q9, q10, ql⟩ := own11 (heap_below D0 (heap_lt HX.out) HX.out)
      obtain ⟨y0, y1, y2, y3, y4, y5, y6, y7, y8, y9, y10, yl⟩ := own11 (heap_below D0 (heap_lt HY.out) HY.out)
      go_enter Tryz.func47, Tryz.ntmps47
      go_wp2_with fail
      rw [HW.out]
      go_wp2_with fail
      go_ret
      exact ⟨rfl, HBC.out.trans (D0.mono HBC.out.size)⟩
    cases b2
    · obtain ⟨q0, q1, q2, q3, q4, q5, q6, q7, q8, q9, q10, ql⟩ := own11 (heap_below D0 (heap_lt HX.out) HX.out)
      obtain ⟨y0, y1, y2, y3, y4, y5, y6, y7, y8, y9, y10, yl⟩ := own11 (heap_below D0 (heap_lt HY.out) HY.out)
      go_enter Tryz.func47, Tryz.ntmps47
      go_wp2_with fail
      rw [HW.out]
      go_wp2_with fail
      go_ret
      exact ⟨rfl, HBC.out.trans (D0.mono HBC.out.size)⟩
    cases b3
    · obtain ⟨q0, q1, q2, q3, q4, q5, q6, q7, q8, q9, q10, ql⟩ := own11 (heap_below D0 (heap_lt HX.out) HX.out)
      obtain ⟨y0, y1, y2, y3, y4, y5, y6, y7, y8, y9, y10, yl⟩ := own11 (heap_below D0 (heap_lt HY.out) HY.out)
      go_enter Tryz.func47, Tryz.ntmps47
      go_wp2_with fail
      rw [HW.out]
      go_wp2_with fail
      go_ret
      exact ⟨rfl, HBC.out.trans (D0.mono HBC.out.size)⟩
    cases b4
    · obtain ⟨q0, q1, q2, q3, q4, q5, q6, q7, q8, q9, q10, ql⟩ := own11 (heap_below D0 (heap_lt HX.out) HX.out)
      obtain ⟨y0, y1, y2, y3, y4, y5, y6, y7, y8, y9, y10, yl⟩ := own11 (heap_below D0 (heap_lt HY.out) HY.out)
      go_enter Tryz.func47, Tryz.ntmps47
      go_wp2_with fail
      rw [HW.out]
      go_wp2_with fail
      go_ret
      exact ⟨rfl, HBC.out.trans (D0.mono HBC.out.size)⟩
    cases b5
    · obtain ⟨q0, q1, q2, q3, q4, q5, q6, q7, q8, q9, q10, ql⟩ := own11 (heap_below D0 (heap_lt HX.out) HX.out)
      obtain ⟨y0, y1, y2, y3, y4, y5, y6, y7, y8, y9, y10, yl⟩ := own11 (heap_below D0 (heap_lt HY.out) HY.out)
      go_enter Tryz.func47, Tryz.ntmps47
      go_wp2_with fail
      rw [HW.out]
      go_wp2_with fail
      refine (C1.out _ D0).mono ?_
      rintro e u1 ⟨rfl, hb⟩
      have D1 := D0.trans (hb.mono D0.size)
      clear hb q0 q1 q2 q3 q4 q5 q6 q7 q8 q9 q10 ql y0 y1 y2 y3 y4 y5 y6 y7 y8 y9 y10 yl
      obtain ⟨q0, q1, q2, q3, q4, q5, q6, q7, q8, q9, q10, ql⟩ := own11 (heap_below D1 (heap_lt HX.out) HX.out)
      obtain ⟨y0, y1, y2, y3, y4, y5, y6, y7, y8, y9, y10, yl⟩ := own11 (heap_below D1 (heap_lt HY.out) HY.out)
      go_wp2_with fail
      go_ret
      exact ⟨rfl, HBC.out.trans (D1.mono HBC.out.size)⟩
    cases b6
    · obtain ⟨q0, q1, q2, q3, q4, q5, q6, q7, q8, q9, q10, ql⟩ := own11 (heap_below D0 (heap_lt HX.out) HX.out)
      obtain ⟨y0, y1, y2, y3, y4, y5, y6, y7, y8, y9, y10, yl⟩ := own11 (heap_below D0 (heap_lt HY.out) HY.out)
      go_enter Tryz.func47, Tryz.ntmps47
      go_wp2_with fail
      rw [HW.out]
      go_wp2_with fail
      refine (C1.out _ D0).mono ?_
      rintro e u1 ⟨rfl, hb⟩
      have D1 := D0.trans (hb.mono D0.size)
      clear hb q0 q1 q2 q3 q4 q5 q6 q7 q8 q9 q10 ql y0 y1 y2 y3 y4 y5 y6 y7 y8 y9 y10 yl
      obtain ⟨q0, q1, q2, q3, q4, q5, q6, q7, q8, q9, q10, ql⟩ := own11 (heap_below D1 (heap_lt HX.out) HX.out)
      obtain ⟨y0, y1, y2, y3, y4, y5, y6, y7, y8, y9, y10, yl⟩ := own11 (heap_below D1 (heap_lt HY.out) HY.out)
      go_wp2_with fail
      refine (C2.out _ D1).mono ?_
      rintro e u2 ⟨rfl, hb⟩
      have D2 := D1.trans (hb.mono D1.size)
      clear hb q0 q1 q2 q3 q4 q5 q6 q7 q8 q9 q10 ql y0 y1 y2 y3 y4 y5 y6 y7 y8 y9 y10 yl
      obtain ⟨q0, q1, q2, q3, q4, q5, q6, q7, q8, q9, q10, ql⟩ := own11 (heap_below D2 (heap_lt HX.out) HX.out)
      obtain ⟨y0, y1, y2, y3, y4, y5, y6, y7, y8, y9, y10, yl⟩ := own11 (heap_below D2 (heap_lt HY.out) HY.out)
      go_wp2_with fail
      go_ret
      exact ⟨rfl, HBC.out.trans (D2.mono HBC.out.size)⟩
    obtain ⟨q0, q1, q2, q3, q4, q5, q6, q7, q8, q9, q10, ql⟩ := own11 (heap_below D0 (heap_lt HX.out) HX.out)
    obtain ⟨y0, y1, y2, y3, y4, y5, y6, y7, y8, y9, y10, yl⟩ := own11 (heap_below D0 (heap_lt HY.out) HY.out)
    go_enter Tryz.func47, Tryz.ntmps47
    go_wp2_with fail
    rw [HW.out]
    go_wp2_with fail
    refine (C1.out _ D0).mono ?_
    rintro e u1 ⟨rfl, hb⟩
    have D1 := D0.trans (hb.mono D0.size)
    clear hb q0 q1 q2 q3 q4 q5 q6 q7 q8 q9 q10 ql y0 y1 y2 y3 y4 y5 y6 y7 y8 y9 y10 yl
    obtain ⟨q0, q1, q2, q3, q4, q5, q6, q7, q8, q9, q10, ql⟩ := own11 (heap_below D1 (heap_lt HX.out) HX.out)
    obtain ⟨y0, y1, y2, y3, y4, y5, y6, y7, y8, y9, y10, yl⟩ := own11 (heap_below D1 (heap_lt HY.out) HY.out)
    go_wp2_with fail
    refine (C2.out _ D1).mono ?_
    rintro e u2 ⟨rfl, hb⟩
    have D2 := D1.trans (hb.mono D1.size)
    clear hb q0 q1 q2 q3 q4 q5 q6 q7 q8 q9 q10 ql y0 y1 y2 y3 y4 y5 y6 y7 y8 y9 y10 yl
    obtain ⟨q0, q1, q2, q3, q4, q5, q6, q7, q8, q9, q10, ql⟩ := own11 (heap_below D2 (heap_lt HX.out) HX.out)
    obtain ⟨y0, y1, y2, y3, y4, y5, y6, y7, y8, y9, y10, yl⟩ := own11 (heap_below D2 (heap_lt HY.out) HY.out)
    go_wp2_with fail
    refine (C3.out _ D2).mono ?_
    rintro e u3 ⟨rfl, hb⟩
    have D3 := D2.trans (hb.mono D2.size)
    clear hb q0 q1 q2 q3 q4 q5 q6 q7 q8 q9 q10 ql y0 y1 y2 y3 y4 y5 y6 y7 y8 y9 y10 yl
    obtain ⟨q0, q1, q2, q3, q4, q5, q6, q7, q8, q9, q10, ql⟩ := own11 (heap_below D3 (heap_lt HX.out) HX.out)
    obtain ⟨y0, y1, y2, y3, y4, y5, y6, y7, y8, y9, y10, yl⟩ := own11 (heap_below D3 (heap_lt HY.out) HY.out)
    go_wp2_with fail
    go_ret
    exact ⟨rfl, HBC.out.trans (D3.mono HBC.out.size)⟩
end Go.Proofs.YtfkbdpehdabepaaGreatDoor
