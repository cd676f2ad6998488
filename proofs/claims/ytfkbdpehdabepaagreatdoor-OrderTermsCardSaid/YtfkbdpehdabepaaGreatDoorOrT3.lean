/-
  The document's Has, terms, Terms.
-/
import Derived.Test.YtfkbdpehdabepaaGreatDoorOrT2A
import Derived.Test.YtfkbdpehdabepaaGreatDoorOrT2B
namespace Go.Proofs.YtfkbdpehdabepaaGreatDoor
open Go.RowKit

set_option maxHeartbeats 4000000 in
set_option maxRecDepth 100000 in
theorem has_any (K : Nat) : ∀ (h : Hd) (kids : Tm) (p : Pl) (w : World), Tm.nodes kids < K → Tm.Is w h kids p →
    Calls Tryz.prog 48 #[.agg #[.int .i8 h.kind, .string h.name, .string h.arg, .int .i64 h.num, .int .i8 h.tk, .slice p.TA p.tn p.tc, .int .i8 h.uk, .slice p.UA p.un p.uc, .int .i64 h.label, .int .i64 h.pos, .slice p.A p.n p.c], .int .i8 17] w fun e w' => e = .returned (.bool (Tm.hcT h kids)) ∧ Below w.heap.size w w' := by
  induction K with
  | zero => intro _ _ _ _ hK; omega
  | succ K ih =>
    intro h kids p w hK hIs
    have hB0 : Below w.heap.size w (w.alloc (.cells #[.int .i8 h.kind, .string h.name, .string h.arg, .int .i64 h.num, .int .i8 h.tk, .slice p.TA p.tn p.tc, .int .i8 h.uk, .slice p.UA p.un p.uc, .int .i64 h.label, .int .i64 h.pos, .slice p.A p.n p.c] 28)) := (Below.refl _ _).alloc (Nat.le_refl _) _
    have hbox := heap_new w (.cells #[.int .i8 h.kind, .string h.name, .string h.arg, .int .i64 h.num, .int .i8 h.tk, .slice p.TA p.tn p.tc, .int .i8 h.uk, .slice p.UA p.un p.uc, .int .i64 h.label, .int .i64 h.pos, .slice p.A p.n p.c] 28)
    generalize hw1 : w.alloc (.cells #[.int .i8 h.kind, .string h.name, .string h.arg, .int .i64 h.num, .int .i8 h.tk, .slice p.TA p.tn p.tc, .int .i8 h.uk, .slice p.UA p.un p.uc, .int .i64 h.label, .int .i64 h.pos, .slice p.A p.n p.c] 28) = w1 at *
    have HW := Lib.hid hw1
    have HB := Lib.hid hB0
    have HX := Lib.hid hbox
    have IH := Lib.hid ih
    have i5 : (p.n : Int) ≤ 9223372036854775807 := by have h1 := hIs.fit.n_le; have h2 := hIs.fit.c_le; unfold maxLen at h2; omega
    have HST := Lib.hid (OverT.start (hIs.below hB0).lies hIs.fit.n_eq)
    obtain ⟨q0, q1, q2, q3, q4, q5, q6, q7, q8, q9, q10, ql⟩ := own11 HX.out
    clear ih hIs hB0 hbox hw1
    cases hk : (h.kind == 17)
    · obtain ⟨R, hR⟩ : ∃ R, Tm.hcF kids = R := ⟨_, rfl⟩
      rw [show Tm.hcT h kids = R by unfold Tm.hcT; rw [hk, hR]; rfl]
      have HR := Lib.hid hR
      clear hR
      go_enter Tryz.func48, Tryz.ntmps48
      go_wp2_with fail
      rw [HW.out]
      go_wp2_with fail
      clear q0 q1 q2 q3 q4 q5 q6 q7 q8 q9 q10 ql
      go_loopw [5] (fun v wr => ∃ (i : Nat) (rest : Tm), v = .int .i64 i ∧ OverT w1 wr p.A p.n (Tm.nodes kids) i rest ∧ Tm.hcF rest = R) (fun v _ => p.n - (intOf v).toNat)
      case atStart => exact ⟨0, kids, rfl, HST.out, HR.out⟩
      case round =>
        obtain ⟨i, rest, rfl, hO, hR⟩ := hrel
        have hbB := HB.out.trans (hO.below.mono HB.out.size)
        obtain ⟨q0, q1, q2, q3, q4, q5, q6, q7, q8, q9, q10, ql⟩ := own11 (heap_below hO.below (heap_lt HX.out) HX.out)
        cases rest with
        | nil =>
          have hi : i = p.n := by have := hO.i_eq; simpa [Tm.len] using this
          clear hO
          simp only [Tm.hcF] at hR
          subst hi
          subst hR
          go_wp2_with fail
          go_ret
          exact ⟨rfl, hbB⟩
        | node h1 kd r =>
          have hst := fun w2 hb => OverT.step (w2 := w2) hO hb
          have e1 := hO.i_eq
          have e2 := hO.lies
          have e3 := hO.sub
          simp only [Tm.len, Tm.nodes, Tm.hcF] at e1 e3 hR
          obtain ⟨bb, oo, p1, hpA, hcs, hfit, hl3, hl4⟩ := e2
          have hcall := IH.out h1 kd p1 wr (by omega) ⟨hfit, hl3⟩
          obtain ⟨c0, c1, c2, c3, c4, c5, c6, c7, c8, c9, c10⟩ := Tm.row hcs
          have HS1 := Lib.hid hst
          have HL := Lib.hid hl4
          have HRR := Lib.hid hR
          have hal : Tm.hcT h1 kd = ((h1.kind == 17) || Tm.hcF kd) := rfl
          rw [← hal] at HRR
          have j1 : (0 : Int) ≤ (i : Int) ∧ (i : Int) < p.n := by omega
          have HPA := Lib.hid hpA
          clear hst hl3 hl4 hO hR hcs hfit hal hpA
          generalize Tm.hcT h1 kd = x at *
          have HCK := Lib.hid hcall
          clear hcall
          generalize hPA : p.A = PA at *
          obtain rfl : PA = some ⟨bb, oo, none⟩ := HPA.out
          clear hPA HPA
          cases x
          · go_wp2_with fail
            refine HCK.out.mono ?_
            rintro e w2 ⟨rfl, hb⟩
            have hbb := Lib.hid (HS1.out w2 hb HL.out)
            have HNX := Lib.hid (show Tm.hcF r = R by rw [← HRR.out]; rfl)
            clear hb q0 q1 q2 q3 q4 q5 q6 q7 q8 q9 q10 ql c0 c1 c2 c3 c4 c5 c6 c7 c8 c9 c10
            go_wp2_with fail
            go_roundw
            case rel => exact ⟨i + 1, r, by go_num, hbb.out, HNX.out⟩
            case measure => simp [intOf]; omega
          · go_wp2_with fail
            refine HCK.out.mono ?_
            rintro e w2 ⟨rfl, hb⟩
            go_wp2_with fail
            go_ret
            exact ⟨ret_b (by rw [← HRR.out]; rfl), hbB.trans (hb.mono hbB.size)⟩
    · rw [show Tm.hcT h kids = true by unfold Tm.hcT; rw [hk]; rfl]
      go_enter Tryz.func48, Tryz.ntmps48
      go_wp2_with fail
      rw [HW.out]
      go_wp2_with fail
      go_ret
      exact ⟨rfl, HB.out⟩

theorem Tm.not17 {h : Hd} {kids : Tm} (hc : Tm.hcT h kids = false) : Tm.hasLabel h.kind = false := by
  unfold Tm.hcT at hc
  rw [Bool.or_eq_false_iff] at hc
  have := hc.1
  unfold Tm.hasLabel
  simpa using this

set_option maxHeartbeats 4000000 in
set_option maxRecDepth 100000 in
theorem rterms_no (h : Hd) (p : Pl) (h' : Hd) (p' : Pl) (w : World) (hno : (h.kind != h'.kind) = true) :
    Calls Tryz.prog 49 #[.agg #[.int .i8 h.kind, .string h.name, .string h.arg, .int .i64 h.num, .int .i8 h.tk, .slice p.TA p.tn p.tc, .int .i8 h.uk, .slice p.UA p.un p.uc, .int .i64 h.label, .int .i64 h.pos, .slice p.A p.n p.c], .agg #[.int .i8 h'.kind, .string h'.name, .string h'.arg, .int .i64 h'.num, .int .i8 h'.tk, .slice p'.TA p'.tn p'.tc, .int .i8 h'.uk, .slice p'.UA p'.un p'.uc, .int .i64 h'.label, .int .i64 h'.pos, .slice p'.A p'.n p'.c]] w fun e w' => e = .returned (.bool false) ∧ Below w.heap.size w w' := by
  obtain ⟨r0, r1, _⟩ := two_new w (.cells #[.int .i8 h.kind, .string h.name, .string h.arg, .int .i64 h.num, .int .i8 h.tk, .slice p.TA p.tn p.tc, .int .i8 h.uk, .slice p.UA p.un p.uc, .int .i64 h.label, .int .i64 h.pos, .slice p.A p.n p.c] 28) (.cells #[.int .i8 h'.kind, .string h'.name, .string h'.arg, .int .i64 h'.num, .int .i8 h'.tk, .slice p'.TA p'.tn p'.tc, .int .i8 h'.uk, .slice p'.UA p'.un p'.uc, .int .i64 h'.label, .int .i64 h'.pos, .slice p'.A p'.n p'.c] 28)
  have hB0 : Below w.heap.size w ((w.alloc (.cells #[.int .i8 h.kind, .string h.name, .string h.arg, .int .i64 h.num, .int .i8 h.tk, .slice p.TA p.tn p.tc, .int .i8 h.uk, .slice p.UA p.un p.uc, .int .i64 h.label, .int .i64 h.pos, .slice p.A p.n p.c] 28)).alloc (.cells #[.int .i8 h'.kind, .string h'.name, .string h'.arg, .int .i64 h'.num, .int .i8 h'.tk, .slice p'.TA p'.tn p'.tc, .int .i8 h'.uk, .slice p'.UA p'.un p'.uc, .int .i64 h'.label, .int .i64 h'.pos, .slice p'.A p'.n p'.c] 28)) := ((Below.refl _ _).alloc (Nat.le_refl _) _).alloc (by simp) _
  obtain ⟨q0, q1, q2, q3, q4, q5, q6, q7, q8, q9, q10, ql⟩ := own11 r0
  obtain ⟨y0, y1, y2, y3, y4, y5, y6, y7, y8, y9, y10, yl⟩ := own11 r1
  clear r0 r1
  go_enter Tryz.func49, Tryz.ntmps49
  go_wp2_with fail
  go_ret
  exact ⟨rfl, hB0⟩

theorem rterms_any (K : Nat) : ∀ (h : Hd) (kids : Tm) (p : Pl) (h' : Hd) (kids' : Tm) (p' : Pl) (w : World), Tm.nodes kids < K → Tm.Is w h kids p → Tm.Is w h' kids' p' → Tm.okT h kids = true → Tm.okT h' kids' = true → Tm.hcT h kids = false → Tm.hcT h' kids' = false →
    Calls Tryz.prog 49 #[.agg #[.int .i8 h.kind, .string h.name, .string h.arg, .int .i64 h.num, .int .i8 h.tk, .slice p.TA p.tn p.tc, .int .i8 h.uk, .slice p.UA p.un p.uc, .int .i64 h.label, .int .i64 h.pos, .slice p.A p.n p.c], .agg #[.int .i8 h'.kind, .string h'.name, .string h'.arg, .int .i64 h'.num, .int .i8 h'.tk, .slice p'.TA p'.tn p'.tc, .int .i8 h'.uk, .slice p'.UA p'.un p'.uc, .int .i64 h'.label, .int .i64 h'.pos, .slice p'.A p'.n p'.c]] w fun e w' => e = .returned (.bool (Tm.reT h kids h' kids')) ∧ Below w.heap.size w w' := by
  induction K with
  | zero => intro _ _ _ _ _ _ _ hK; omega
  | succ K ih =>
    intro h kids p h' kids' p' w hK hIs hIs' ho ho' hc hc'
    by_cases hkk : h.kind = h'.kind
    · rcases Tm.combos h.kind with hk | hk | hk | hk | hk | hk | hk | hk
      · exact tre_A h kids p h' kids' p' w K hK hIs hIs' ho ho' hc hc' hkk hk ih
      · exact tre_V h kids p h' kids' p' w K hK hIs hIs' ho ho' hc hc' hkk hk ih
      · exact tre_N h kids p h' kids' p' w K hK hIs hIs' ho ho' hc hc' hkk hk ih
      · exact tre_L h kids p h' kids' p' w K hK hIs hIs' ho ho' hc hc' hkk hk ih
      · exact tre_R h kids p h' kids' p' w K hK hIs hIs' ho ho' hc hc' hkk hk ih
      · exact tre_I h kids p h' kids' p' w K hK hIs hIs' ho ho' hc hc' hkk hk ih
      · exact tre_C h kids p h' kids' p' w K hK hIs hIs' ho ho' hc hc' hkk hk ih
      · have := Tm.not17 hc
        rw [hk.2.2.2.2.2] at this
        cases this
    · rw [show Tm.reT h kids h' kids' = false by unfold Tm.reT Tm.reH; rw [show (h.kind == h'.kind) = false by simpa using hkk]; rfl]
      exact rterms_no h p h' p' w (by simpa using hkk)

set_option maxHeartbeats 8000000 in
set_option maxRecDepth 100000 in
theorem rTerms_any (h : Hd) (kids : Tm) (p : Pl) (h' : Hd) (kids' : Tm) (p' : Pl) (w : World) (hIs : Tm.Is w h kids p) (hIs' : Tm.Is w h' kids' p') :
    Calls Tryz.prog 19 #[.agg #[.int .i8 h.kind, .string h.name, .string h.arg, .int .i64 h.num, .int .i8 h.tk, .slice p.TA p.tn p.tc, .int .i8 h.uk, .slice p.UA p.un p.uc, .int .i64 h.label, .int .i64 h.pos, .slice p.A p.n p.c], .agg #[.int .i8 h'.kind, .string h'.name, .string h'.arg, .int .i64 h'.num, .int .i8 h'.tk, .slice p'.TA p'.tn p'.tc, .int .i8 h'.uk, .slice p'.UA p'.un p'.uc, .int .i64 h'.label, .int .i64 h'.pos, .slice p'.A p'.n p'.c]] w fun e w' => e = .returned (.bool (Tm.tellT h kids h' kids')) ∧ Below w.heap.size w w' := by
  obtain ⟨r0, r1, _⟩ := two_new w (.cells #[.int .i8 h.kind, .string h.name, .string h.arg, .int .i64 h.num, .int .i8 h.tk, .slice p.TA p.tn p.tc, .int .i8 h.uk, .slice p.UA p.un p.uc, .int .i64 h.label, .int .i64 h.pos, .slice p.A p.n p.c] 28) (.cells #[.int .i8 h'.kind, .string h'.name, .string h'.arg, .int .i64 h'.num, .int .i8 h'.tk, .slice p'.TA p'.tn p'.tc, .int .i8 h'.uk, .slice p'.UA p'.un p'.uc, .int .i64 h'.label, .int .i64 h'.pos, .slice p'.A p'.n p'.c] 28)
  have hB0 : Below w.heap.size w ((w.alloc (.cells #[.int .i8 h.kind, .string h.name, .string h.arg, .int .i64 h.num, .int .i8 h.tk, .slice p.TA p.tn p.tc, .int .i8 h.uk, .slice p.UA p.un p.uc, .int .i64 h.label, .int .i64 h.pos, .slice p.A p.n p.c] 28)).alloc (.cells #[.int .i8 h'.kind, .string h'.name, .string h'.arg, .int .i64 h'.num, .int .i8 h'.tk, .slice p'.TA p'.tn p'.tc, .int .i8 h'.uk, .slice p'.UA p'.un p'.uc, .int .i64 h'.label, .int .i64 h'.pos, .slice p'.A p'.n p'.c] 28)) := ((Below.refl _ _).alloc (Nat.le_refl _) _).alloc (by simp) _
  generalize hw1 : (w.alloc (.cells #[.int .i8 h.kind, .string h.name, .string h.arg, .int .i64 h.num, .int .i8 h.tk, .slice p.TA p.tn p.tc, .int .i8 h.uk, .slice p.UA p.un p.uc, .int .i64 h.label, .int .i64 h.pos, .slice p.A p.n p.c] 28)).alloc (.cells #[.int .i8 h'.kind, .string h'.name, .string h'.arg, .int .i64 h'.num, .int .i8 h'.tk, .slice p'.TA p'.tn p'.tc, .int .i8 h'.uk, .slice p'.UA p'.un p'.uc, .int .i64 h'.label, .int .i64 h'.pos, .slice p'.A p'.n p'.c] 28) = w1 at *
  have HW := Lib.hid hw1
  have HBC := Lib.hid hB0
  have HX := Lib.hid r0
  have HY := Lib.hid r1
  clear r0 r1 hw1
  have D0 : Below w1.heap.size w1 w1 := Below.refl _ _
  have CA := Lib.hid (fun (W : World) (hb : Below w1.heap.size w1 W) => tref_check h kids p W ((hIs.below hB0).below hb))
  have CB := Lib.hid (fun (W : World) (hb : Below w1.heap.size w1 W) => tref_check h' kids' p' W ((hIs'.below hB0).below hb))
  have CH := Lib.hid (fun (W : World) (hb : Below w1.heap.size w1 W) => has_any (Tm.nodes kids + 1) h kids p W (Nat.lt_succ_self _) ((hIs.below hB0).below hb))
  have CG := Lib.hid (fun (W : World) (hb : Below w1.heap.size w1 W) => has_any (Tm.nodes kids' + 1) h' kids' p' W (Nat.lt_succ_self _) ((hIs'.below hB0).below hb))
  have CT := Lib.hid (fun (W : World) (hb : Below w1.heap.size w1 W) h1 h2 h3 h4 => rterms_any (Tm.nodes kids + 1) h kids p h' kids' p' W (Nat.lt_succ_self _) ((hIs.below hB0).below hb) ((hIs'.below hB0).below hb) h1 h2 h3 h4)
  clear hIs hIs' hB0
  unfold Tm.tellT
  by_cases h0 : Tm.chk h kids = 0
  · rw [h0] at CA
    by_cases h1 : Tm.chk h' kids' = 0
    · rw [h1] at CB
      rw [h0, h1, show (((0 : Nat) : Int) == 0) = true by rfl, Bool.true_and, Bool.true_and]
      have o1 := Tm.chk_okT h0
      have o2 := Tm.chk_okT h1
      cases hc : Tm.hcT h kids
      · rw [hc] at CH
        cases hc' : Tm.hcT h' kids'
        · rw [hc'] at CG
          have C28 := Lib.hid (fun (W : World) (hb : Below w1.heap.size w1 W) => CT.out W hb o1 o2 hc hc')
          rw [show ((!false) && ((!false) && Tm.reT h kids h' kids')) = Tm.reT h kids h' kids' by rfl]
          generalize Tm.reT h kids h' kids' = RE at *
          clear CT h0 h1 hc hc' o1 o2
          obtain ⟨q0, q1, q2, q3, q4, q5, q6, q7, q8, q9, q10, ql⟩ := own11 (heap_below D0 (heap_lt HX.out) HX.out)
          obtain ⟨y0, y1, y2, y3, y4, y5, y6, y7, y8, y9, y10, yl⟩ := own11 (heap_below D0 (heap_lt HY.out) HY.out)
          go_enter Tryz.func19, Tryz.ntmps19
          go_wp2_with fail
          rw [HW.out]
          go_wp2_with fail
          refine (CA.out _ D0).mono ?_
          rintro e u1 ⟨rfl, hb⟩
          have D1 := D0.trans (hb.mono D0.size)
          clear hb q0 q1 q2 q3 q4 q5 q6 q7 q8 q9 q10 ql y0 y1 y2 y3 y4 y5 y6 y7 y8 y9 y10 yl
          obtain ⟨q0, q1, q2, q3, q4, q5, q6, q7, q8, q9, q10, ql⟩ := own11 (heap_below D1 (heap_lt HX.out) HX.out)
          obtain ⟨y0, y1, y2, y3, y4, y5, y6, y7, y8, y9, y10, yl⟩ := own11 (heap_below D1 (heap_lt HY.out) HY.out)
          go_wp2_with fail
          refine (CB.out _ D1).mono ?_
          rintro e u2 ⟨rfl, hb⟩
          have D2 := D1.trans (hb.mono D1.size)
          clear hb q0 q1 q2 q3 q4 q5 q6 q7 q8 q9 q10 ql y0 y1 y2 y3 y4 y5 y6 y7 y8 y9 y10 yl
          obtain ⟨q0, q1, q2, q3, q4, q5, q6, q7, q8, q9, q10, ql⟩ := own11 (heap_below D2 (heap_lt HX.out) HX.out)
          obtain ⟨y0, y1, y2, y3, y4, y5, y6, y7, y8, y9, y10, yl⟩ := own11 (heap_below D2 (heap_lt HY.out) HY.out)
          go_wp2_with fail
          refine (CH.out _ D2).mono ?_
          rintro e u3 ⟨rfl, hb⟩
          have D3 := D2.trans (hb.mono D2.size)
          clear hb q0 q1 q2 q3 q4 q5 q6 q7 q8 q9 q10 ql y0 y1 y2 y3 y4 y5 y6 y7 y8 y9 y10 yl
          obtain ⟨q0, q1, q2, q3, q4, q5, q6, q7, q8, q9, q10, ql⟩ := own11 (heap_below D3 (heap_lt HX.out) HX.out)
          obtain ⟨y0, y1, y2, y3, y4, y5, y6, y7, y8, y9, y10, yl⟩ := own11 (heap_below D3 (heap_lt HY.out) HY.out)
          go_wp2_with fail
          refine (CG.out _ D3).mono ?_
          rintro e u4 ⟨rfl, hb⟩
          have D4 := D3.trans (hb.mono D3.size)
          clear hb q0 q1 q2 q3 q4 q5 q6 q7 q8 q9 q10 ql y0 y1 y2 y3 y4 y5 y6 y7 y8 y9 y10 yl
          obtain ⟨q0, q1, q2, q3, q4, q5, q6, q7, q8, q9, q10, ql⟩ := own11 (heap_below D4 (heap_lt HX.out) HX.out)
          obtain ⟨y0, y1, y2, y3, y4, y5, y6, y7, y8, y9, y10, yl⟩ := own11 (heap_below D4 (heap_lt HY.out) HY.out)
          go_wp2_with fail
          refine (C28.out _ D4).mono ?_
          rintro e u5 ⟨rfl, hb⟩
          have D5 := D4.trans (hb.mono D4.size)
          clear hb q0 q1 q2 q3 q4 q5 q6 q7 q8 q9 q10 ql y0 y1 y2 y3 y4 y5 y6 y7 y8 y9 y10 yl
          obtain ⟨q0, q1, q2, q3, q4, q5, q6, q7, q8, q9, q10, ql⟩ := own11 (heap_below D5 (heap_lt HX.out) HX.out)
          obtain ⟨y0, y1, y2, y3, y4, y5, y6, y7, y8, y9, y10, yl⟩ := own11 (heap_below D5 (heap_lt HY.out) HY.out)
          go_wp2_with fail
          go_ret
          exact ⟨rfl, HBC.out.trans (D5.mono HBC.out.size)⟩
        · rw [hc'] at CG
          clear CT h0 h1 hc hc' o1 o2
          obtain ⟨q0, q1, q2, q3, q4, q5, q6, q7, q8, q9, q10, ql⟩ := own11 (heap_below D0 (heap_lt HX.out) HX.out)
          obtain ⟨y0, y1, y2, y3, y4, y5, y6, y7, y8, y9, y10, yl⟩ := own11 (heap_below D0 (heap_lt HY.out) HY.out)
          go_enter Tryz.func19, Tryz.ntmps19
          go_wp2_with fail
          rw [HW.out]
          go_wp2_with fail
          refine (CA.out _ D0).mono ?_
          rintro e u1 ⟨rfl, hb⟩
          have D1 := D0.trans (hb.mono D0.size)
          clear hb q0 q1 q2 q3 q4 q5 q6 q7 q8 q9 q10 ql y0 y1 y2 y3 y4 y5 y6 y7 y8 y9 y10 yl
          obtain ⟨q0, q1, q2, q3, q4, q5, q6, q7, q8, q9, q10, ql⟩ := own11 (heap_below D1 (heap_lt HX.out) HX.out)
          obtain ⟨y0, y1, y2, y3, y4, y5, y6, y7, y8, y9, y10, yl⟩ := own11 (heap_below D1 (heap_lt HY.out) HY.out)
          go_wp2_with fail
          refine (CB.out _ D1).mono ?_
          rintro e u2 ⟨rfl, hb⟩
          have D2 := D1.trans (hb.mono D1.size)
          clear hb q0 q1 q2 q3 q4 q5 q6 q7 q8 q9 q10 ql y0 y1 y2 y3 y4 y5 y6 y7 y8 y9 y10 yl
          obtain ⟨q0, q1, q2, q3, q4, q5, q6, q7, q8, q9, q10, ql⟩ := own11 (heap_below D2 (heap_lt HX.out) HX.out)
          obtain ⟨y0, y1, y2, y3, y4, y5, y6, y7, y8, y9, y10, yl⟩ := own11 (heap_below D2 (heap_lt HY.out) HY.out)
          go_wp2_with fail
          refine (CH.out _ D2).mono ?_
          rintro e u3 ⟨rfl, hb⟩
          have D3 := D2.trans (hb.mono D2.size)
          clear hb q0 q1 q2 q3 q4 q5 q6 q7 q8 q9 q10 ql y0 y1 y2 y3 y4 y5 y6 y7 y8 y9 y10 yl
          obtain ⟨q0, q1, q2, q3, q4, q5, q6, q7, q8, q9, q10, ql⟩ := own11 (heap_below D3 (heap_lt HX.out) HX.out)
          obtain ⟨y0, y1, y2, y3, y4, y5, y6, y7, y8, y9, y10, yl⟩ := own11 (heap_below D3 (heap_lt HY.out) HY.out)
          go_wp2_with fail
          refine (CG.out _ D3).mono ?_
          rintro e u4 ⟨rfl, hb⟩
          have D4 := D3.trans (hb.mono D3.size)
          clear hb q0 q1 q2 q3 q4 q5 q6 q7 q8 q9 q10 ql y0 y1 y2 y3 y4 y5 y6 y7 y8 y9 y10 yl
          obtain ⟨q0, q1, q2, q3, q4, q5, q6, q7, q8, q9, q10, ql⟩ := own11 (heap_below D4 (heap_lt HX.out) HX.out)
          obtain ⟨y0, y1, y2, y3, y4, y5, y6, y7, y8, y9, y10, yl⟩ := own11 (heap_below D4 (heap_lt HY.out) HY.out)
          go_wp2_with fail
          go_ret
          exact ⟨rfl, HBC.out.trans (D4.mono HBC.out.size)⟩
      · rw [hc] at CH
        clear CT h0 h1 hc o1 o2
        obtain ⟨q0, q1, q2, q3, q4, q5, q6, q7, q8, q9, q10, ql⟩ := own11 (heap_below D0 (heap_lt HX.out) HX.out)
        obtain ⟨y0, y1, y2, y3, y4, y5, y6, y7, y8, y9, y10, yl⟩ := own11 (heap_below D0 (heap_lt HY.out) HY.out)
        go_enter Tryz.func19, Tryz.ntmps19
        go_wp2_with fail
        rw [HW.out]
        go_wp2_with fail
        refine (CA.out _ D0).mono ?_
        rintro e u1 ⟨rfl, hb⟩
        have D1 := D0.trans (hb.mono D0.size)
        clear hb q0 q1 q2 q3 q4 q5 q6 q7 q8 q9 q10 ql y0 y1 y2 y3 y4 y5 y6 y7 y8 y9 y10 yl
        obtain ⟨q0, q1, q2, q3, q4, q5, q6, q7, q8, q9, q10, ql⟩ := own11 (heap_below D1 (heap_lt HX.out) HX.out)
        obtain ⟨y0, y1, y2, y3, y4, y5, y6, y7, y8, y9, y10, yl⟩ := own11 (heap_below D1 (heap_lt HY.out) HY.out)
        go_wp2_with fail
        refine (CB.out _ D1).mono ?_
        rintro e u2 ⟨rfl, hb⟩
        have D2 := D1.trans (hb.mono D1.size)
        clear hb q0 q1 q2 q3 q4 q5 q6 q7 q8 q9 q10 ql y0 y1 y2 y3 y4 y5 y6 y7 y8 y9 y10 yl
        obtain ⟨q0, q1, q2, q3, q4, q5, q6, q7, q8, q9, q10, ql⟩ := own11 (heap_below D2 (heap_lt HX.out) HX.out)
        obtain ⟨y0, y1, y2, y3, y4, y5, y6, y7, y8, y9, y10, yl⟩ := own11 (heap_below D2 (heap_lt HY.out) HY.out)
        go_wp2_with fail
        refine (CH.out _ D2).mono ?_
        rintro e u3 ⟨rfl, hb⟩
        have D3 := D2.trans (hb.mono D2.size)
        clear hb q0 q1 q2 q3 q4 q5 q6 q7 q8 q9 q10 ql y0 y1 y2 y3 y4 y5 y6 y7 y8 y9 y10 yl
        obtain ⟨q0, q1, q2, q3, q4, q5, q6, q7, q8, q9, q10, ql⟩ := own11 (heap_below D3 (heap_lt HX.out) HX.out)
        obtain ⟨y0, y1, y2, y3, y4, y5, y6, y7, y8, y9, y10, yl⟩ := own11 (heap_below D3 (heap_lt HY.out) HY.out)
        go_wp2_with fail
        go_ret
        exact ⟨rfl, HBC.out.trans (D3.mono HBC.out.size)⟩
    · have hc : (((Tm.chk h' kids' : Nat) : Int) != 0) = true := by simp; omega
      have hr : ((((Tm.chk h kids : Nat) : Int) == 0) && ((((Tm.chk h' kids' : Nat) : Int) == 0) && ((!Tm.hcT h kids) && ((!Tm.hcT h' kids') && Tm.reT h kids h' kids')))) = false := by
        rw [show (((Tm.chk h' kids' : Nat) : Int) == 0) = false by simp; omega]; simp
      rw [hr]
      generalize Tm.chk h' kids' = C at *
      clear CT CH CG h0 h1 hr
      obtain ⟨q0, q1, q2, q3, q4, q5, q6, q7, q8, q9, q10, ql⟩ := own11 (heap_below D0 (heap_lt HX.out) HX.out)
      obtain ⟨y0, y1, y2, y3, y4, y5, y6, y7, y8, y9, y10, yl⟩ := own11 (heap_below D0 (heap_lt HY.out) HY.out)
      go_enter Tryz.func19, Tryz.ntmps19
      go_wp2_with fail
      rw [HW.out]
      go_wp2_with fail
      refine (CA.out _ D0).mono ?_
      rintro e u1 ⟨rfl, hb⟩
      have D1 := D0.trans (hb.mono D0.size)
      clear hb q0 q1 q2 q3 q4 q5 q6 q7 q8 q9 q10 ql y0 y1 y2 y3 y4 y5 y6 y7 y8 y9 y10 yl
      obtain ⟨q0, q1, q2, q3, q4, q5, q6, q7, q8, q9, q10, ql⟩ := own11 (heap_below D1 (heap_lt HX.out) HX.out)
      obtain ⟨y0, y1, y2, y3, y4, y5, y6, y7, y8, y9, y10, yl⟩ := own11 (heap_below D1 (heap_lt HY.out) HY.out)
      go_wp2_with fail
      refine (CB.out _ D1).mono ?_
      rintro e u2 ⟨rfl, hb⟩
      have D2 := D1.trans (hb.mono D1.size)
      clear hb q0 q1 q2 q3 q4 q5 q6 q7 q8 q9 q10 ql y0 y1 y2 y3 y4 y5 y6 y7 y8 y9 y10 yl
      obtain ⟨q0, q1, q2, q3, q4, q5, q6, q7, q8, q9, q10, ql⟩ := own11 (heap_below D2 (heap_lt HX.out) HX.out)
      obtain ⟨y0, y1, y2, y3, y4, y5, y6, y7, y8, y9, y10, yl⟩ := own11 (heap_below D2 (heap_lt HY.out) HY.out)
      go_wp2_with fail
      go_ret
      exact ⟨rfl, HBC.out.trans (D2.mono HBC.out.size)⟩
  · have hc : (((Tm.chk h kids : Nat) : Int) != 0) = true := by simp; omega
    rw [show (((Tm.chk h kids : Nat) : Int) == 0) = false by simp; omega, Bool.false_and]
    generalize Tm.chk h kids = C at *
    clear CT CH CG CB h0
    obtain ⟨q0, q1, q2, q3, q4, q5, q6, q7, q8, q9, q10, ql⟩ := own11 (heap_below D0 (heap_lt HX.out) HX.out)
    obtain ⟨y0, y1, y2, y3, y4, y5, y6, y7, y8, y9, y10, yl⟩ := own11 (heap_below D0 (heap_lt HY.out) HY.out)
    go_enter Tryz.func19, Tryz.ntmps19
    go_wp2_with fail
    rw [HW.out]
    go_wp2_with fail
    refine (CA.out _ D0).mono ?_
    rintro e u1 ⟨rfl, hb⟩
    have D1 := D0.trans (hb.mono D0.size)
    clear hb q0 q1 q2 q3 q4 q5 q6 q7 q8 q9 q10 ql y0 y1 y2 y3 y4 y5 y6 y7 y8 y9 y10 yl
    obtain ⟨q0, q1, q2, q3, q4, q5, q6, q7, q8, q9, q10, ql⟩ := own11 (heap_below D1 (heap_lt HX.out) HX.out)
    obtain ⟨y0, y1, y2, y3, y4, y5, y6, y7, y8, y9, y10, yl⟩ := own11 (heap_below D1 (heap_lt HY.out) HY.out)
    go_wp2_with fail
    go_ret
    exact ⟨rfl, HBC.out.trans (D1.mono HBC.out.size)⟩
end Go.Proofs.YtfkbdpehdabepaaGreatDoor
