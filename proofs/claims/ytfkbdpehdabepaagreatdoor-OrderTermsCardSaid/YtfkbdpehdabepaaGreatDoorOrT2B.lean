/-
  The document's terms, kinds by what counts.
-/
import Derived.Test.YtfkbdpehdabepaaGreatDoorM9
namespace Go.Proofs.YtfkbdpehdabepaaGreatDoor
open Go.RowKit

set_option maxHeartbeats 8000000 in
set_option maxRecDepth 100000 in
theorem tre_R (h : Hd) (kids : Tm) (p : Pl) (h' : Hd) (kids' : Tm) (p' : Pl) (w : World) (K : Nat) (hK : Tm.nodes kids < K + 1) (hIs : Tm.Is w h kids p) (hIs' : Tm.Is w h' kids' p') (ho : Tm.okT h kids = true) (ho' : Tm.okT h' kids' = true) (hcs : Tm.hcT h kids = false) (hcs' : Tm.hcT h' kids' = false) (hkk : h.kind = h'.kind)
    (hk : Tm.hasName h.kind = true ∧ Tm.hasArg h.kind = true ∧ Tm.hasNum h.kind = false ∧ Tm.hasType h.kind = true ∧ Tm.hasTo h.kind = true ∧ Tm.hasLabel h.kind = false)
    (ih : ∀ (h : Hd) (kids : Tm) (p : Pl) (h' : Hd) (kids' : Tm) (p' : Pl) (w : World), Tm.nodes kids < K → Tm.Is w h kids p → Tm.Is w h' kids' p' → Tm.okT h kids = true → Tm.okT h' kids' = true → Tm.hcT h kids = false → Tm.hcT h' kids' = false → Calls Tryz.prog 49 #[.agg #[.int .i8 h.kind, .string h.name, .string h.arg, .int .i64 h.num, .int .i8 h.tk, .slice p.TA p.tn p.tc, .int .i8 h.uk, .slice p.UA p.un p.uc, .int .i64 h.label, .int .i64 h.pos, .slice p.A p.n p.c], .agg #[.int .i8 h'.kind, .string h'.name, .string h'.arg, .int .i64 h'.num, .int .i8 h'.tk, .slice p'.TA p'.tn p'.tc, .int .i8 h'.uk, .slice p'.UA p'.un p'.uc, .int .i64 h'.label, .int .i64 h'.pos, .slice p'.A p'.n p'.c]] w fun e w' => e = .returned (.bool (Tm.reT h kids h' kids')) ∧ Below w.heap.size w w') :
    Calls Tryz.prog 49 #[.agg #[.int .i8 h.kind, .string h.name, .string h.arg, .int .i64 h.num, .int .i8 h.tk, .slice p.TA p.tn p.tc, .int .i8 h.uk, .slice p.UA p.un p.uc, .int .i64 h.label, .int .i64 h.pos, .slice p.A p.n p.c], .agg #[.int .i8 h'.kind, .string h'.name, .string h'.arg, .int .i64 h'.num, .int .i8 h'.tk, .slice p'.TA p'.tn p'.tc, .int .i8 h'.uk, .slice p'.UA p'.un p'.uc, .int .i64 h'.label, .int .i64 h'.pos, .slice p'.A p'.n p'.c]] w fun e w' => e = .returned (.bool (Tm.reT h kids h' kids')) ∧ Below w.heap.size w w' := by
  obtain ⟨k0, k1, k2, k3, k4, k5⟩ := hk
  have hnn : p.n = p'.n := by rw [hIs.fit.n_eq, hIs'.fit.n_eq]; exact Tm.okT_len ho ho' hkk
  have HX := Lib.hid (LessCtx.mk_of hIs hIs' ho ho' hkk)
  unfold Tm.okT at ho ho'
  unfold Tm.hcT at hcs hcs'
  rw [Bool.and_eq_true] at ho ho'
  rw [Bool.or_eq_false_iff] at hcs hcs'
  have HOK := Lib.hid (And.intro (And.intro ho.2 ho'.2) (And.intro hcs.2 hcs'.2))
  have IH := Lib.hid ih
  have hHN := ref_hasName_any h.kind
  have hHA := ref_hasArg_any h.kind
  have hHT := ref_hasType_any h.kind
  have hHU := ref_hasTo_any h.kind
  have hO : Tm.reT h kids h' kids' = (Tm.reH h h' && Tm.reF kids kids') := rfl
  rw [Tm.reH_of hkk, k0, k1, k2, k3, k4] at hO
  have g1 : (h.kind != h'.kind) = false := by simp [hkk]
  have g3 : (h.kind == 1) = false := by rw [← k2]; unfold Tm.hasNum; rw [Bool.eq_iff_iff]; simp
  rw [k0] at hHN
  rw [k1] at hHA
  rw [k3] at hHT
  rw [k4] at hHU
  have i5 := HX.out.n_max.1
  have i6 := HX.out.n_max.2
  obtain ⟨R, hR⟩ : ∃ R, Tm.reF kids kids' = R := ⟨_, rfl⟩
  have HR := Lib.hid hR
  have HNN := Lib.hid hnn
  rw [hR] at hO
  generalize Tm.reT h kids h' kids' = Q at *
  have HK3 := Lib.hid k3
  have HK4 := Lib.hid k4
  clear hIs hIs' ih ho ho' hcs hcs' hkk hnn k0 k1 k2 k3 k4 k5 hR
  generalize hvname : (h.name.toList == h'.name.toList) = xname at *
  have hwname : (h.name.toList != h'.name.toList) = !xname := by rw [← hvname]; rfl
  generalize hvarg : (h.arg.toList == h'.arg.toList) = xarg at *
  have hwarg : (h.arg.toList != h'.arg.toList) = !xarg := by rw [← hvarg]; rfl
  generalize hvt : Ty.leT h.tk h.tkids h'.tk h'.tkids = xt at *
  have H28 := HX.out.ty HK3.out
  rw [hvt] at H28
  generalize hvu : Ty.leT h.uk h.ukids h'.uk h'.ukids = xu at *
  have HUU := HX.out.tu HK4.out
  rw [hvu] at HUU
  have HT2 := Lib.hid H28
  clear H28 hvt
  have HU2 := Lib.hid HUU
  clear HUU hvu
  cases xname
  · obtain rfl : Q = false := by rw [hO]; simp
    clear hO HR
    simp only [Bool.not_false] at hwname
    obtain ⟨q0, q1, q2, q3, q4, q5, q6, q7, q8, q9, q10, ql⟩ := own11 HX.out.rx
    obtain ⟨y0, y1, y2, y3, y4, y5, y6, y7, y8, y9, y10, yl⟩ := own11 HX.out.ry
    go_enter Tryz.func49, Tryz.ntmps49
    go_wp2_with (first | (go_at_call 78; refine (hHN _).mono ?_; rintro e w9 ⟨rfl, rfl⟩) | (go_at_call 79; refine (hHA _).mono ?_; rintro e w9 ⟨rfl, rfl⟩) | (go_at_call 80; refine (hHT _).mono ?_; rintro e w9 ⟨rfl, rfl⟩) | (go_at_call 81; refine (hHU _).mono ?_; rintro e w9 ⟨rfl, rfl⟩))
    go_ret
    exact ⟨rfl, HX.out.below0⟩
  simp only [Bool.not_true] at hwname
  cases xarg
  · obtain rfl : Q = false := by rw [hO]; simp
    clear hO HR
    simp only [Bool.not_false] at hwarg
    obtain ⟨q0, q1, q2, q3, q4, q5, q6, q7, q8, q9, q10, ql⟩ := own11 HX.out.rx
    obtain ⟨y0, y1, y2, y3, y4, y5, y6, y7, y8, y9, y10, yl⟩ := own11 HX.out.ry
    go_enter Tryz.func49, Tryz.ntmps49
    go_wp2_with (first | (go_at_call 78; refine (hHN _).mono ?_; rintro e w9 ⟨rfl, rfl⟩) | (go_at_call 79; refine (hHA _).mono ?_; rintro e w9 ⟨rfl, rfl⟩) | (go_at_call 80; refine (hHT _).mono ?_; rintro e w9 ⟨rfl, rfl⟩) | (go_at_call 81; refine (hHU _).mono ?_; rintro e w9 ⟨rfl, rfl⟩))
    go_ret
    exact ⟨rfl, HX.out.below0⟩
  simp only [Bool.not_true] at hwarg
  cases xt
  · obtain rfl : Q = false := by rw [hO]; simp
    clear hO HR
    obtain ⟨q0, q1, q2, q3, q4, q5, q6, q7, q8, q9, q10, ql⟩ := own11 HX.out.rx
    obtain ⟨y0, y1, y2, y3, y4, y5, y6, y7, y8, y9, y10, yl⟩ := own11 HX.out.ry
    go_enter Tryz.func49, Tryz.ntmps49
    go_wp2_with (first | (go_at_call 78; refine (hHN _).mono ?_; rintro e w9 ⟨rfl, rfl⟩) | (go_at_call 79; refine (hHA _).mono ?_; rintro e w9 ⟨rfl, rfl⟩) | (go_at_call 80; refine (hHT _).mono ?_; rintro e w9 ⟨rfl, rfl⟩) | (go_at_call 81; refine (hHU _).mono ?_; rintro e w9 ⟨rfl, rfl⟩))
    refine (HT2.out _ HX.out.below0).mono ?_
    rintro e u1 ⟨rfl, hb⟩
    have D1 := HX.out.below0.trans (hb.mono HX.out.below0.size)
    clear q0 q1 q2 q3 q4 q5 q6 q7 q8 q9 q10 ql y0 y1 y2 y3 y4 y5 y6 y7 y8 y9 y10 yl
    have RX1 := Lib.hid (heap_below hb (heap_lt HX.out.rx) HX.out.rx)
    have RY1 := Lib.hid (heap_below hb (heap_lt HX.out.ry) HX.out.ry)
    obtain ⟨q0, q1, q2, q3, q4, q5, q6, q7, q8, q9, q10, ql⟩ := own11 RX1.out
    obtain ⟨y0, y1, y2, y3, y4, y5, y6, y7, y8, y9, y10, yl⟩ := own11 RY1.out
    clear hb
    go_wp2_with (first | (go_at_call 78; refine (hHN _).mono ?_; rintro e w9 ⟨rfl, rfl⟩) | (go_at_call 79; refine (hHA _).mono ?_; rintro e w9 ⟨rfl, rfl⟩) | (go_at_call 80; refine (hHT _).mono ?_; rintro e w9 ⟨rfl, rfl⟩) | (go_at_call 81; refine (hHU _).mono ?_; rintro e w9 ⟨rfl, rfl⟩))
    go_ret
    exact ⟨rfl, D1⟩
  cases xu
  · obtain rfl : Q = false := by rw [hO]; simp
    clear hO HR
    obtain ⟨q0, q1, q2, q3, q4, q5, q6, q7, q8, q9, q10, ql⟩ := own11 HX.out.rx
    obtain ⟨y0, y1, y2, y3, y4, y5, y6, y7, y8, y9, y10, yl⟩ := own11 HX.out.ry
    go_enter Tryz.func49, Tryz.ntmps49
    go_wp2_with (first | (go_at_call 78; refine (hHN _).mono ?_; rintro e w9 ⟨rfl, rfl⟩) | (go_at_call 79; refine (hHA _).mono ?_; rintro e w9 ⟨rfl, rfl⟩) | (go_at_call 80; refine (hHT _).mono ?_; rintro e w9 ⟨rfl, rfl⟩) | (go_at_call 81; refine (hHU _).mono ?_; rintro e w9 ⟨rfl, rfl⟩))
    refine (HT2.out _ HX.out.below0).mono ?_
    rintro e u1 ⟨rfl, hb⟩
    have D1 := HX.out.below0.trans (hb.mono HX.out.below0.size)
    clear q0 q1 q2 q3 q4 q5 q6 q7 q8 q9 q10 ql y0 y1 y2 y3 y4 y5 y6 y7 y8 y9 y10 yl
    have RX1 := Lib.hid (heap_below hb (heap_lt HX.out.rx) HX.out.rx)
    have RY1 := Lib.hid (heap_below hb (heap_lt HX.out.ry) HX.out.ry)
    obtain ⟨q0, q1, q2, q3, q4, q5, q6, q7, q8, q9, q10, ql⟩ := own11 RX1.out
    obtain ⟨y0, y1, y2, y3, y4, y5, y6, y7, y8, y9, y10, yl⟩ := own11 RY1.out
    clear hb
    go_wp2_with (first | (go_at_call 78; refine (hHN _).mono ?_; rintro e w9 ⟨rfl, rfl⟩) | (go_at_call 79; refine (hHA _).mono ?_; rintro e w9 ⟨rfl, rfl⟩) | (go_at_call 80; refine (hHT _).mono ?_; rintro e w9 ⟨rfl, rfl⟩) | (go_at_call 81; refine (hHU _).mono ?_; rintro e w9 ⟨rfl, rfl⟩))
    refine (HU2.out _ D1).mono ?_
    rintro e u2 ⟨rfl, hb⟩
    have D2 := D1.trans (hb.mono D1.size)
    clear q0 q1 q2 q3 q4 q5 q6 q7 q8 q9 q10 ql y0 y1 y2 y3 y4 y5 y6 y7 y8 y9 y10 yl
    have RX2 := Lib.hid (heap_below hb (heap_lt RX1.out) RX1.out)
    have RY2 := Lib.hid (heap_below hb (heap_lt RY1.out) RY1.out)
    obtain ⟨q0, q1, q2, q3, q4, q5, q6, q7, q8, q9, q10, ql⟩ := own11 RX2.out
    obtain ⟨y0, y1, y2, y3, y4, y5, y6, y7, y8, y9, y10, yl⟩ := own11 RY2.out
    clear hb
    go_wp2_with (first | (go_at_call 78; refine (hHN _).mono ?_; rintro e w9 ⟨rfl, rfl⟩) | (go_at_call 79; refine (hHA _).mono ?_; rintro e w9 ⟨rfl, rfl⟩) | (go_at_call 80; refine (hHT _).mono ?_; rintro e w9 ⟨rfl, rfl⟩) | (go_at_call 81; refine (hHU _).mono ?_; rintro e w9 ⟨rfl, rfl⟩))
    go_ret
    exact ⟨rfl, D2⟩
  obtain rfl : R = Q := by rw [hO]; simp
  clear hO
  obtain ⟨q0, q1, q2, q3, q4, q5, q6, q7, q8, q9, q10, ql⟩ := own11 HX.out.rx
  obtain ⟨y0, y1, y2, y3, y4, y5, y6, y7, y8, y9, y10, yl⟩ := own11 HX.out.ry
  go_enter Tryz.func49, Tryz.ntmps49
  go_wp2_with (first | (go_at_call 78; refine (hHN _).mono ?_; rintro e w9 ⟨rfl, rfl⟩) | (go_at_call 79; refine (hHA _).mono ?_; rintro e w9 ⟨rfl, rfl⟩) | (go_at_call 80; refine (hHT _).mono ?_; rintro e w9 ⟨rfl, rfl⟩) | (go_at_call 81; refine (hHU _).mono ?_; rintro e w9 ⟨rfl, rfl⟩))
  refine (HT2.out _ HX.out.below0).mono ?_
  rintro e u1 ⟨rfl, hb⟩
  have D1 := HX.out.below0.trans (hb.mono HX.out.below0.size)
  clear q0 q1 q2 q3 q4 q5 q6 q7 q8 q9 q10 ql y0 y1 y2 y3 y4 y5 y6 y7 y8 y9 y10 yl
  have RX1 := Lib.hid (heap_below hb (heap_lt HX.out.rx) HX.out.rx)
  have RY1 := Lib.hid (heap_below hb (heap_lt HX.out.ry) HX.out.ry)
  obtain ⟨q0, q1, q2, q3, q4, q5, q6, q7, q8, q9, q10, ql⟩ := own11 RX1.out
  obtain ⟨y0, y1, y2, y3, y4, y5, y6, y7, y8, y9, y10, yl⟩ := own11 RY1.out
  clear hb
  go_wp2_with (first | (go_at_call 78; refine (hHN _).mono ?_; rintro e w9 ⟨rfl, rfl⟩) | (go_at_call 79; refine (hHA _).mono ?_; rintro e w9 ⟨rfl, rfl⟩) | (go_at_call 80; refine (hHT _).mono ?_; rintro e w9 ⟨rfl, rfl⟩) | (go_at_call 81; refine (hHU _).mono ?_; rintro e w9 ⟨rfl, rfl⟩))
  refine (HU2.out _ D1).mono ?_
  rintro e u2 ⟨rfl, hb⟩
  have D2 := D1.trans (hb.mono D1.size)
  clear q0 q1 q2 q3 q4 q5 q6 q7 q8 q9 q10 ql y0 y1 y2 y3 y4 y5 y6 y7 y8 y9 y10 yl
  have RX2 := Lib.hid (heap_below hb (heap_lt RX1.out) RX1.out)
  have RY2 := Lib.hid (heap_below hb (heap_lt RY1.out) RY1.out)
  obtain ⟨q0, q1, q2, q3, q4, q5, q6, q7, q8, q9, q10, ql⟩ := own11 RX2.out
  obtain ⟨y0, y1, y2, y3, y4, y5, y6, y7, y8, y9, y10, yl⟩ := own11 RY2.out
  clear hb
  go_wp2_with (first | (go_at_call 78; refine (hHN _).mono ?_; rintro e w9 ⟨rfl, rfl⟩) | (go_at_call 79; refine (hHA _).mono ?_; rintro e w9 ⟨rfl, rfl⟩) | (go_at_call 80; refine (hHT _).mono ?_; rintro e w9 ⟨rfl, rfl⟩) | (go_at_call 81; refine (hHU _).mono ?_; rintro e w9 ⟨rfl, rfl⟩))
  have HD := Lib.hid D2
  have KX := Lib.hid RX2.out
  have KY := Lib.hid RY2.out
  have HST := Lib.hid (OverT.start (HX.out.lies _ HD.out).1 HX.out.n_eq.1)
  have HST2 := Lib.hid (OverT.start (HX.out.lies _ HD.out).2 HX.out.n_eq.2)
  clear q0 q1 q2 q3 q4 q5 q6 q7 q8 q9 q10 ql y0 y1 y2 y3 y4 y5 y6 y7 y8 y9 y10 yl D1 D2
  generalize u2 = w1 at *
  go_loopw [5] (fun v wr => ∃ (i : Nat) (rest rest2 : Tm), v = .int .i64 i ∧ OverT w1 wr p.A p.n (Tm.nodes kids) i rest ∧ OverT w1 wr p'.A p'.n (Tm.nodes kids') i rest2 ∧ Tm.reF rest rest2 = R ∧ (Tm.okF rest = true ∧ Tm.okF rest2 = true) ∧ (Tm.hcF rest = false ∧ Tm.hcF rest2 = false)) (fun v _ => p.n - (intOf v).toNat)
  case atStart => exact ⟨0, kids, kids', rfl, HST.out, HST2.out, HR.out, HOK.out.1, HOK.out.2⟩
  case round =>
    obtain ⟨i, rest, rest2, rfl, hO, hO2, hR, hok, hcc⟩ := hrel
    have hbB := HD.out.trans (hO.below.mono HD.out.size)
    obtain ⟨q0, q1, q2, q3, q4, q5, q6, q7, q8, q9, q10, ql⟩ := own11 (heap_below hO.below (heap_lt KX.out) KX.out)
    obtain ⟨y0, y1, y2, y3, y4, y5, y6, y7, y8, y9, y10, yl⟩ := own11 (heap_below hO.below (heap_lt KY.out) KY.out)
    cases rest with
    | nil =>
      have hi : i = p.n := by have := hO.i_eq; simpa [Tm.len] using this
      cases rest2 with
      | node _ _ _ => have h1 := hO2.i_eq; simp only [Tm.len] at h1; have h9 := HNN.out; omega
      | nil =>
      clear hO hO2 hok hcc
      simp only [Tm.reF] at hR
      subst hi
      subst hR
      go_wp2_with fail
      go_ret
      exact ⟨rfl, hbB⟩
    | node h1 kd r =>
      cases rest2 with
      | nil => have h1 := hO2.i_eq; have h2 := hO.i_eq; simp only [Tm.len] at h1 h2; have h9 := HNN.out; omega
      | node h2 kd' r2 =>
      have hst := fun w2 hb => OverT.step (w2 := w2) hO hb
      have hst2 := fun w2 hb => OverT.step (w2 := w2) hO2 hb
      have e1 := hO.i_eq
      have e2 := hO.lies
      have e22 := hO2.lies
      have e3 := hO.sub
      simp only [Tm.len, Tm.nodes, Tm.reF] at e1 e3 hR
      obtain ⟨ok1, ok3⟩ := Tm.okF_node hok.1
      obtain ⟨ok2, ok4⟩ := Tm.okF_node hok.2
      simp only [Tm.hcF, Bool.or_eq_false_iff] at hcc
      have cc1 : Tm.hcT h1 kd = false := by unfold Tm.hcT; rw [Bool.or_eq_false_iff]; exact hcc.1.1
      have cc2 : Tm.hcT h2 kd' = false := by unfold Tm.hcT; rw [Bool.or_eq_false_iff]; exact hcc.2.1
      have HOK2 := Lib.hid (And.intro (And.intro ok3 ok4) (And.intro hcc.1.2 hcc.2.2))
      obtain ⟨bb, oo, p1, hpA, hcs, hfit, hl3, hl4⟩ := e2
      obtain ⟨bb2, oo2, p2, hpA2, hcs2, hfit2, hl32, hl42⟩ := e22
      have E0 : Below wr.heap.size wr wr.drew := (Below.refl _ _).drew
      have hcall := IH.out h1 kd p1 h2 kd' p2 wr.drew (by omega) (Tm.Is.below ⟨hfit, hl3⟩ E0) (Tm.Is.below ⟨hfit2, hl32⟩ E0) ok1 ok2 cc1 cc2
      obtain ⟨c0, c1, c2, c3, c4, c5, c6, c7, c8, c9, c10⟩ := Tm.row hcs
      obtain ⟨d0, d1, d2, d3, d4, d5, d6, d7, d8, d9, d10⟩ := Tm.row hcs2
      have HS1 := Lib.hid hst
      have HS2 := Lib.hid hst2
      have HL := Lib.hid hl4
      have HL2 := Lib.hid hl42
      have HRR := Lib.hid hR
      have hal : Tm.reT h1 kd h2 kd' = (Tm.reH h1 h2 && Tm.reF kd kd') := rfl
      rw [← hal] at HRR
      have j1 : (0 : Int) ≤ (i : Int) ∧ (i : Int) < p.n := by omega
      have j2 : (0 : Int) ≤ (i : Int) ∧ (i : Int) < p'.n := by have h9 := HNN.out; omega
      have HPA := Lib.hid hpA
      have HPA2 := Lib.hid hpA2
      clear hok hcc ok1 ok2 ok3 ok4 cc1 cc2 hst hst2 hl3 hl4 hl32 hl42 hO hO2 hR hcs hcs2 hfit hfit2 hal hpA hpA2
      generalize Tm.reT h1 kd h2 kd' = x at *
      have HCK := Lib.hid hcall
      clear hcall
      generalize hPA : p.A = PA at *
      generalize hPA2 : p'.A = PA2 at *
      obtain rfl : PA = some ⟨bb, oo, none⟩ := HPA.out
      obtain rfl : PA2 = some ⟨bb2, oo2, none⟩ := HPA2.out
      clear hPA hPA2 HPA HPA2
      cases x
      · go_wp2_with fail
        go_still_tail 10, (by kernel_rfl)
        change wpList _ _ _ _ _ wr.drew
        clear q0 q1 q2 q3 q4 q5 q6 q7 q8 q9 q10 ql y0 y1 y2 y3 y4 y5 y6 y7 y8 y9 y10 yl c0 c1 c2 c3 c4 c5 c6 c7 c8 c9 c10 d0 d1 d2 d3 d4 d5 d6 d7 d8 d9 d10
        have hE := hbB.drew
        generalize wr.drew = w5 at *
        go_wp2_with fail
        refine HCK.out.mono ?_
        rintro e w2 ⟨rfl, hb⟩
        go_wp2_with fail
        go_ret
        exact ⟨ret_b (by rw [← HRR.out]; rfl), hE.trans (hb.mono hE.size)⟩
      · go_wp2_with fail
        go_still_tail 10, (by kernel_rfl)
        change wpList _ _ _ _ _ wr.drew
        clear q0 q1 q2 q3 q4 q5 q6 q7 q8 q9 q10 ql y0 y1 y2 y3 y4 y5 y6 y7 y8 y9 y10 yl c0 c1 c2 c3 c4 c5 c6 c7 c8 c9 c10 d0 d1 d2 d3 d4 d5 d6 d7 d8 d9 d10
        generalize wr.drew = w5 at *
        go_wp2_with fail
        refine HCK.out.mono ?_
        rintro e w2 ⟨rfl, hb⟩
        have hbw := E0.trans (hb.mono E0.size)
        have hbb := Lib.hid (HS1.out w2 hbw HL.out)
        have hbb2 := Lib.hid (HS2.out w2 hbw HL2.out)
        have HNX := Lib.hid (show Tm.reF r r2 = R by rw [← HRR.out]; rfl)
        clear hb hbw
        go_wp2_with fail
        go_roundw
        case rel => exact ⟨i + 1, r, r2, by go_num, hbb.out, hbb2.out, HNX.out, HOK2.out.1, HOK2.out.2⟩
        case measure => simp [intOf]; omega

set_option maxHeartbeats 8000000 in
set_option maxRecDepth 100000 in
theorem tre_I (h : Hd) (kids : Tm) (p : Pl) (h' : Hd) (kids' : Tm) (p' : Pl) (w : World) (K : Nat) (hK : Tm.nodes kids < K + 1) (hIs : Tm.Is w h kids p) (hIs' : Tm.Is w h' kids' p') (ho : Tm.okT h kids = true) (ho' : Tm.okT h' kids' = true) (hcs : Tm.hcT h kids = false) (hcs' : Tm.hcT h' kids' = false) (hkk : h.kind = h'.kind)
    (hk : Tm.hasName h.kind = false ∧ Tm.hasArg h.kind = false ∧ Tm.hasNum h.kind = false ∧ Tm.hasType h.kind = true ∧ Tm.hasTo h.kind = false ∧ Tm.hasLabel h.kind = false)
    (ih : ∀ (h : Hd) (kids : Tm) (p : Pl) (h' : Hd) (kids' : Tm) (p' : Pl) (w : World), Tm.nodes kids < K → Tm.Is w h kids p → Tm.Is w h' kids' p' → Tm.okT h kids = true → Tm.okT h' kids' = true → Tm.hcT h kids = false → Tm.hcT h' kids' = false → Calls Tryz.prog 49 #[.agg #[.int .i8 h.kind, .string h.name, .string h.arg, .int .i64 h.num, .int .i8 h.tk, .slice p.TA p.tn p.tc, .int .i8 h.uk, .slice p.UA p.un p.uc, .int .i64 h.label, .int .i64 h.pos, .slice p.A p.n p.c], .agg #[.int .i8 h'.kind, .string h'.name, .string h'.arg, .int .i64 h'.num, .int .i8 h'.tk, .slice p'.TA p'.tn p'.tc, .int .i8 h'.uk, .slice p'.UA p'.un p'.uc, .int .i64 h'.label, .int .i64 h'.pos, .slice p'.A p'.n p'.c]] w fun e w' => e = .returned (.bool (Tm.reT h kids h' kids')) ∧ Below w.heap.size w w') :
    Calls Tryz.prog 49 #[.agg #[.int .i8 h.kind, .string h.name, .string h.arg, .int .i64 h.num, .int .i8 h.tk, .slice p.TA p.tn p.tc, .int .i8 h.uk, .slice p.UA p.un p.uc, .int .i64 h.label, .int .i64 h.pos, .slice p.A p.n p.c], .agg #[.int .i8 h'.kind, .string h'.name, .string h'.arg, .int .i64 h'.num, .int .i8 h'.tk, .slice p'.TA p'.tn p'.tc, .int .i8 h'.uk, .slice p'.UA p'.un p'.uc, .int .i64 h'.label, .int .i64 h'.pos, .slice p'.A p'.n p'.c]] w fun e w' => e = .returned (.bool (Tm.reT h kids h' kids')) ∧ Below w.heap.size w w' := by
  obtain ⟨k0, k1, k2, k3, k4, k5⟩ := hk
  have hnn : p.n = p'.n := by rw [hIs.fit.n_eq, hIs'.fit.n_eq]; exact Tm.okT_len ho ho' hkk
  have HX := Lib.hid (LessCtx.mk_of hIs hIs' ho ho' hkk)
  unfold Tm.okT at ho ho'
  unfold Tm.hcT at hcs hcs'
  rw [Bool.and_eq_true] at ho ho'
  rw [Bool.or_eq_false_iff] at hcs hcs'
  have HOK := Lib.hid (And.intro (And.intro ho.2 ho'.2) (And.intro hcs.2 hcs'.2))
  have IH := Lib.hid ih
  have hHN := ref_hasName_any h.kind
  have hHA := ref_hasArg_any h.kind
  have hHT := ref_hasType_any h.kind
  have hHU := ref_hasTo_any h.kind
  have hO : Tm.reT h kids h' kids' = (Tm.reH h h' && Tm.reF kids kids') := rfl
  rw [Tm.reH_of hkk, k0, k1, k2, k3, k4] at hO
  have g1 : (h.kind != h'.kind) = false := by simp [hkk]
  have g3 : (h.kind == 1) = false := by rw [← k2]; unfold Tm.hasNum; rw [Bool.eq_iff_iff]; simp
  rw [k0] at hHN
  rw [k1] at hHA
  rw [k3] at hHT
  rw [k4] at hHU
  have i5 := HX.out.n_max.1
  have i6 := HX.out.n_max.2
  obtain ⟨R, hR⟩ : ∃ R, Tm.reF kids kids' = R := ⟨_, rfl⟩
  have HR := Lib.hid hR
  have HNN := Lib.hid hnn
  rw [hR] at hO
  generalize Tm.reT h kids h' kids' = Q at *
  have HK3 := Lib.hid k3
  have HK4 := Lib.hid k4
  clear hIs hIs' ih ho ho' hcs hcs' hkk hnn k0 k1 k2 k3 k4 k5 hR
  generalize hvt : Ty.leT h.tk h.tkids h'.tk h'.tkids = xt at *
  have H28 := HX.out.ty HK3.out
  rw [hvt] at H28
  have HT2 := Lib.hid H28
  clear H28 hvt
  cases xt
  · obtain rfl : Q = false := by rw [hO]; simp
    clear hO HR
    obtain ⟨q0, q1, q2, q3, q4, q5, q6, q7, q8, q9, q10, ql⟩ := own11 HX.out.rx
    obtain ⟨y0, y1, y2, y3, y4, y5, y6, y7, y8, y9, y10, yl⟩ := own11 HX.out.ry
    go_enter Tryz.func49, Tryz.ntmps49
    go_wp2_with (first | (go_at_call 78; refine (hHN _).mono ?_; rintro e w9 ⟨rfl, rfl⟩) | (go_at_call 79; refine (hHA _).mono ?_; rintro e w9 ⟨rfl, rfl⟩) | (go_at_call 80; refine (hHT _).mono ?_; rintro e w9 ⟨rfl, rfl⟩) | (go_at_call 81; refine (hHU _).mono ?_; rintro e w9 ⟨rfl, rfl⟩))
    refine (HT2.out _ HX.out.below0).mono ?_
    rintro e u1 ⟨rfl, hb⟩
    have D1 := HX.out.below0.trans (hb.mono HX.out.below0.size)
    clear q0 q1 q2 q3 q4 q5 q6 q7 q8 q9 q10 ql y0 y1 y2 y3 y4 y5 y6 y7 y8 y9 y10 yl
    have RX1 := Lib.hid (heap_below hb (heap_lt HX.out.rx) HX.out.rx)
    have RY1 := Lib.hid (heap_below hb (heap_lt HX.out.ry) HX.out.ry)
    obtain ⟨q0, q1, q2, q3, q4, q5, q6, q7, q8, q9, q10, ql⟩ := own11 RX1.out
    obtain ⟨y0, y1, y2, y3, y4, y5, y6, y7, y8, y9, y10, yl⟩ := own11 RY1.out
    clear hb
    go_wp2_with (first | (go_at_call 78; refine (hHN _).mono ?_; rintro e w9 ⟨rfl, rfl⟩) | (go_at_call 79; refine (hHA _).mono ?_; rintro e w9 ⟨rfl, rfl⟩) | (go_at_call 80; refine (hHT _).mono ?_; rintro e w9 ⟨rfl, rfl⟩) | (go_at_call 81; refine (hHU _).mono ?_; rintro e w9 ⟨rfl, rfl⟩))
    go_ret
    exact ⟨rfl, D1⟩
  obtain rfl : R = Q := by rw [hO]; simp
  clear hO
  obtain ⟨q0, q1, q2, q3, q4, q5, q6, q7, q8, q9, q10, ql⟩ := own11 HX.out.rx
  obtain ⟨y0, y1, y2, y3, y4, y5, y6, y7, y8, y9, y10, yl⟩ := own11 HX.out.ry
  go_enter Tryz.func49, Tryz.ntmps49
  go_wp2_with (first | (go_at_call 78; refine (hHN _).mono ?_; rintro e w9 ⟨rfl, rfl⟩) | (go_at_call 79; refine (hHA _).mono ?_; rintro e w9 ⟨rfl, rfl⟩) | (go_at_call 80; refine (hHT _).mono ?_; rintro e w9 ⟨rfl, rfl⟩) | (go_at_call 81; refine (hHU _).mono ?_; rintro e w9 ⟨rfl, rfl⟩))
  refine (HT2.out _ HX.out.below0).mono ?_
  rintro e u1 ⟨rfl, hb⟩
  have D1 := HX.out.below0.trans (hb.mono HX.out.below0.size)
  clear q0 q1 q2 q3 q4 q5 q6 q7 q8 q9 q10 ql y0 y1 y2 y3 y4 y5 y6 y7 y8 y9 y10 yl
  have RX1 := Lib.hid (heap_below hb (heap_lt HX.out.rx) HX.out.rx)
  have RY1 := Lib.hid (heap_below hb (heap_lt HX.out.ry) HX.out.ry)
  obtain ⟨q0, q1, q2, q3, q4, q5, q6, q7, q8, q9, q10, ql⟩ := own11 RX1.out
  obtain ⟨y0, y1, y2, y3, y4, y5, y6, y7, y8, y9, y10, yl⟩ := own11 RY1.out
  clear hb
  go_wp2_with (first | (go_at_call 78; refine (hHN _).mono ?_; rintro e w9 ⟨rfl, rfl⟩) | (go_at_call 79; refine (hHA _).mono ?_; rintro e w9 ⟨rfl, rfl⟩) | (go_at_call 80; refine (hHT _).mono ?_; rintro e w9 ⟨rfl, rfl⟩) | (go_at_call 81; refine (hHU _).mono ?_; rintro e w9 ⟨rfl, rfl⟩))
  have HD := Lib.hid D1
  have KX := Lib.hid RX1.out
  have KY := Lib.hid RY1.out
  have HST := Lib.hid (OverT.start (HX.out.lies _ HD.out).1 HX.out.n_eq.1)
  have HST2 := Lib.hid (OverT.start (HX.out.lies _ HD.out).2 HX.out.n_eq.2)
  clear q0 q1 q2 q3 q4 q5 q6 q7 q8 q9 q10 ql y0 y1 y2 y3 y4 y5 y6 y7 y8 y9 y10 yl D1
  generalize u1 = w1 at *
  go_loopw [5] (fun v wr => ∃ (i : Nat) (rest rest2 : Tm), v = .int .i64 i ∧ OverT w1 wr p.A p.n (Tm.nodes kids) i rest ∧ OverT w1 wr p'.A p'.n (Tm.nodes kids') i rest2 ∧ Tm.reF rest rest2 = R ∧ (Tm.okF rest = true ∧ Tm.okF rest2 = true) ∧ (Tm.hcF rest = false ∧ Tm.hcF rest2 = false)) (fun v _ => p.n - (intOf v).toNat)
  case atStart => exact ⟨0, kids, kids', rfl, HST.out, HST2.out, HR.out, HOK.out.1, HOK.out.2⟩
  case round =>
    obtain ⟨i, rest, rest2, rfl, hO, hO2, hR, hok, hcc⟩ := hrel
    have hbB := HD.out.trans (hO.below.mono HD.out.size)
    obtain ⟨q0, q1, q2, q3, q4, q5, q6, q7, q8, q9, q10, ql⟩ := own11 (heap_below hO.below (heap_lt KX.out) KX.out)
    obtain ⟨y0, y1, y2, y3, y4, y5, y6, y7, y8, y9, y10, yl⟩ := own11 (heap_below hO.below (heap_lt KY.out) KY.out)
    cases rest with
    | nil =>
      have hi : i = p.n := by have := hO.i_eq; simpa [Tm.len] using this
      cases rest2 with
      | node _ _ _ => have h1 := hO2.i_eq; simp only [Tm.len] at h1; have h9 := HNN.out; omega
      | nil =>
      clear hO hO2 hok hcc
      simp only [Tm.reF] at hR
      subst hi
      subst hR
      go_wp2_with fail
      go_ret
      exact ⟨rfl, hbB⟩
    | node h1 kd r =>
      cases rest2 with
      | nil => have h1 := hO2.i_eq; have h2 := hO.i_eq; simp only [Tm.len] at h1 h2; have h9 := HNN.out; omega
      | node h2 kd' r2 =>
      have hst := fun w2 hb => OverT.step (w2 := w2) hO hb
      have hst2 := fun w2 hb => OverT.step (w2 := w2) hO2 hb
      have e1 := hO.i_eq
      have e2 := hO.lies
      have e22 := hO2.lies
      have e3 := hO.sub
      simp only [Tm.len, Tm.nodes, Tm.reF] at e1 e3 hR
      obtain ⟨ok1, ok3⟩ := Tm.okF_node hok.1
      obtain ⟨ok2, ok4⟩ := Tm.okF_node hok.2
      simp only [Tm.hcF, Bool.or_eq_false_iff] at hcc
      have cc1 : Tm.hcT h1 kd = false := by unfold Tm.hcT; rw [Bool.or_eq_false_iff]; exact hcc.1.1
      have cc2 : Tm.hcT h2 kd' = false := by unfold Tm.hcT; rw [Bool.or_eq_false_iff]; exact hcc.2.1
      have HOK2 := Lib.hid (And.intro (And.intro ok3 ok4) (And.intro hcc.1.2 hcc.2.2))
      obtain ⟨bb, oo, p1, hpA, hcs, hfit, hl3, hl4⟩ := e2
      obtain ⟨bb2, oo2, p2, hpA2, hcs2, hfit2, hl32, hl42⟩ := e22
      have E0 : Below wr.heap.size wr wr.drew := (Below.refl _ _).drew
      have hcall := IH.out h1 kd p1 h2 kd' p2 wr.drew (by omega) (Tm.Is.below ⟨hfit, hl3⟩ E0) (Tm.Is.below ⟨hfit2, hl32⟩ E0) ok1 ok2 cc1 cc2
      obtain ⟨c0, c1, c2, c3, c4, c5, c6, c7, c8, c9, c10⟩ := Tm.row hcs
      obtain ⟨d0, d1, d2, d3, d4, d5, d6, d7, d8, d9, d10⟩ := Tm.row hcs2
      have HS1 := Lib.hid hst
      have HS2 := Lib.hid hst2
      have HL := Lib.hid hl4
      have HL2 := Lib.hid hl42
      have HRR := Lib.hid hR
      have hal : Tm.reT h1 kd h2 kd' = (Tm.reH h1 h2 && Tm.reF kd kd') := rfl
      rw [← hal] at HRR
      have j1 : (0 : Int) ≤ (i : Int) ∧ (i : Int) < p.n := by omega
      have j2 : (0 : Int) ≤ (i : Int) ∧ (i : Int) < p'.n := by have h9 := HNN.out; omega
      have HPA := Lib.hid hpA
      have HPA2 := Lib.hid hpA2
      clear hok hcc ok1 ok2 ok3 ok4 cc1 cc2 hst hst2 hl3 hl4 hl32 hl42 hO hO2 hR hcs hcs2 hfit hfit2 hal hpA hpA2
      generalize Tm.reT h1 kd h2 kd' = x at *
      have HCK := Lib.hid hcall
      clear hcall
      generalize hPA : p.A = PA at *
      generalize hPA2 : p'.A = PA2 at *
      obtain rfl : PA = some ⟨bb, oo, none⟩ := HPA.out
      obtain rfl : PA2 = some ⟨bb2, oo2, none⟩ := HPA2.out
      clear hPA hPA2 HPA HPA2
      cases x
      · go_wp2_with fail
        go_still_tail 10, (by kernel_rfl)
        change wpList _ _ _ _ _ wr.drew
        clear q0 q1 q2 q3 q4 q5 q6 q7 q8 q9 q10 ql y0 y1 y2 y3 y4 y5 y6 y7 y8 y9 y10 yl c0 c1 c2 c3 c4 c5 c6 c7 c8 c9 c10 d0 d1 d2 d3 d4 d5 d6 d7 d8 d9 d10
        have hE := hbB.drew
        generalize wr.drew = w5 at *
        go_wp2_with fail
        refine HCK.out.mono ?_
        rintro e w2 ⟨rfl, hb⟩
        go_wp2_with fail
        go_ret
        exact ⟨ret_b (by rw [← HRR.out]; rfl), hE.trans (hb.mono hE.size)⟩
      · go_wp2_with fail
        go_still_tail 10, (by kernel_rfl)
        change wpList _ _ _ _ _ wr.drew
        clear q0 q1 q2 q3 q4 q5 q6 q7 q8 q9 q10 ql y0 y1 y2 y3 y4 y5 y6 y7 y8 y9 y10 yl c0 c1 c2 c3 c4 c5 c6 c7 c8 c9 c10 d0 d1 d2 d3 d4 d5 d6 d7 d8 d9 d10
        generalize wr.drew = w5 at *
        go_wp2_with fail
        refine HCK.out.mono ?_
        rintro e w2 ⟨rfl, hb⟩
        have hbw := E0.trans (hb.mono E0.size)
        have hbb := Lib.hid (HS1.out w2 hbw HL.out)
        have hbb2 := Lib.hid (HS2.out w2 hbw HL2.out)
        have HNX := Lib.hid (show Tm.reF r r2 = R by rw [← HRR.out]; rfl)
        clear hb hbw
        go_wp2_with fail
        go_roundw
        case rel => exact ⟨i + 1, r, r2, by go_num, hbb.out, hbb2.out, HNX.out, HOK2.out.1, HOK2.out.2⟩
        case measure => simp [intOf]; omega

set_option maxHeartbeats 8000000 in
set_option maxRecDepth 100000 in
theorem tre_C (h : Hd) (kids : Tm) (p : Pl) (h' : Hd) (kids' : Tm) (p' : Pl) (w : World) (K : Nat) (hK : Tm.nodes kids < K + 1) (hIs : Tm.Is w h kids p) (hIs' : Tm.Is w h' kids' p') (ho : Tm.okT h kids = true) (ho' : Tm.okT h' kids' = true) (hcs : Tm.hcT h kids = false) (hcs' : Tm.hcT h' kids' = false) (hkk : h.kind = h'.kind)
    (hk : Tm.hasName h.kind = true ∧ Tm.hasArg h.kind = true ∧ Tm.hasNum h.kind = false ∧ Tm.hasType h.kind = false ∧ Tm.hasTo h.kind = false ∧ Tm.hasLabel h.kind = false)
    (ih : ∀ (h : Hd) (kids : Tm) (p : Pl) (h' : Hd) (kids' : Tm) (p' : Pl) (w : World), Tm.nodes kids < K → Tm.Is w h kids p → Tm.Is w h' kids' p' → Tm.okT h kids = true → Tm.okT h' kids' = true → Tm.hcT h kids = false → Tm.hcT h' kids' = false → Calls Tryz.prog 49 #[.agg #[.int .i8 h.kind, .string h.name, .string h.arg, .int .i64 h.num, .int .i8 h.tk, .slice p.TA p.tn p.tc, .int .i8 h.uk, .slice p.UA p.un p.uc, .int .i64 h.label, .int .i64 h.pos, .slice p.A p.n p.c], .agg #[.int .i8 h'.kind, .string h'.name, .string h'.arg, .int .i64 h'.num, .int .i8 h'.tk, .slice p'.TA p'.tn p'.tc, .int .i8 h'.uk, .slice p'.UA p'.un p'.uc, .int .i64 h'.label, .int .i64 h'.pos, .slice p'.A p'.n p'.c]] w fun e w' => e = .returned (.bool (Tm.reT h kids h' kids')) ∧ Below w.heap.size w w') :
    Calls Tryz.prog 49 #[.agg #[.int .i8 h.kind, .string h.name, .string h.arg, .int .i64 h.num, .int .i8 h.tk, .slice p.TA p.tn p.tc, .int .i8 h.uk, .slice p.UA p.un p.uc, .int .i64 h.label, .int .i64 h.pos, .slice p.A p.n p.c], .agg #[.int .i8 h'.kind, .string h'.name, .string h'.arg, .int .i64 h'.num, .int .i8 h'.tk, .slice p'.TA p'.tn p'.tc, .int .i8 h'.uk, .slice p'.UA p'.un p'.uc, .int .i64 h'.label, .int .i64 h'.pos, .slice p'.A p'.n p'.c]] w fun e w' => e = .returned (.bool (Tm.reT h kids h' kids')) ∧ Below w.heap.size w w' := by
  obtain ⟨k0, k1, k2, k3, k4, k5⟩ := hk
  have hnn : p.n = p'.n := by rw [hIs.fit.n_eq, hIs'.fit.n_eq]; exact Tm.okT_len ho ho' hkk
  have HX := Lib.hid (LessCtx.mk_of hIs hIs' ho ho' hkk)
  unfold Tm.okT at ho ho'
  unfold Tm.hcT at hcs hcs'
  rw [Bool.and_eq_true] at ho ho'
  rw [Bool.or_eq_false_iff] at hcs hcs'
  have HOK := Lib.hid (And.intro (And.intro ho.2 ho'.2) (And.intro hcs.2 hcs'.2))
  have IH := Lib.hid ih
  have hHN := ref_hasName_any h.kind
  have hHA := ref_hasArg_any h.kind
  have hHT := ref_hasType_any h.kind
  have hHU := ref_hasTo_any h.kind
  have hO : Tm.reT h kids h' kids' = (Tm.reH h h' && Tm.reF kids kids') := rfl
  rw [Tm.reH_of hkk, k0, k1, k2, k3, k4] at hO
  have g1 : (h.kind != h'.kind) = false := by simp [hkk]
  have g3 : (h.kind == 1) = false := by rw [← k2]; unfold Tm.hasNum; rw [Bool.eq_iff_iff]; simp
  rw [k0] at hHN
  rw [k1] at hHA
  rw [k3] at hHT
  rw [k4] at hHU
  have i5 := HX.out.n_max.1
  have i6 := HX.out.n_max.2
  obtain ⟨R, hR⟩ : ∃ R, Tm.reF kids kids' = R := ⟨_, rfl⟩
  have HR := Lib.hid hR
  have HNN := Lib.hid hnn
  rw [hR] at hO
  generalize Tm.reT h kids h' kids' = Q at *
  have HK3 := Lib.hid k3
  have HK4 := Lib.hid k4
  clear hIs hIs' ih ho ho' hcs hcs' hkk hnn k0 k1 k2 k3 k4 k5 hR
  generalize hvname : (h.name.toList == h'.name.toList) = xname at *
  have hwname : (h.name.toList != h'.name.toList) = !xname := by rw [← hvname]; rfl
  generalize hvarg : (h.arg.toList == h'.arg.toList) = xarg at *
  have hwarg : (h.arg.toList != h'.arg.toList) = !xarg := by rw [← hvarg]; rfl
  cases xname
  · obtain rfl : Q = false := by rw [hO]; simp
    clear hO HR
    simp only [Bool.not_false] at hwname
    obtain ⟨q0, q1, q2, q3, q4, q5, q6, q7, q8, q9, q10, ql⟩ := own11 HX.out.rx
    obtain ⟨y0, y1, y2, y3, y4, y5, y6, y7, y8, y9, y10, yl⟩ := own11 HX.out.ry
    go_enter Tryz.func49, Tryz.ntmps49
    go_wp2_with (first | (go_at_call 78; refine (hHN _).mono ?_; rintro e w9 ⟨rfl, rfl⟩) | (go_at_call 79; refine (hHA _).mono ?_; rintro e w9 ⟨rfl, rfl⟩) | (go_at_call 80; refine (hHT _).mono ?_; rintro e w9 ⟨rfl, rfl⟩) | (go_at_call 81; refine (hHU _).mono ?_; rintro e w9 ⟨rfl, rfl⟩))
    go_ret
    exact ⟨rfl, HX.out.below0⟩
  simp only [Bool.not_true] at hwname
  cases xarg
  · obtain rfl : Q = false := by rw [hO]; simp
    clear hO HR
    simp only [Bool.not_false] at hwarg
    obtain ⟨q0, q1, q2, q3, q4, q5, q6, q7, q8, q9, q10, ql⟩ := own11 HX.out.rx
    obtain ⟨y0, y1, y2, y3, y4, y5, y6, y7, y8, y9, y10, yl⟩ := own11 HX.out.ry
    go_enter Tryz.func49, Tryz.ntmps49
    go_wp2_with (first | (go_at_call 78; refine (hHN _).mono ?_; rintro e w9 ⟨rfl, rfl⟩) | (go_at_call 79; refine (hHA _).mono ?_; rintro e w9 ⟨rfl, rfl⟩) | (go_at_call 80; refine (hHT _).mono ?_; rintro e w9 ⟨rfl, rfl⟩) | (go_at_call 81; refine (hHU _).mono ?_; rintro e w9 ⟨rfl, rfl⟩))
    go_ret
    exact ⟨rfl, HX.out.below0⟩
  simp only [Bool.not_true] at hwarg
  obtain rfl : R = Q := by rw [hO]; simp
  clear hO
  obtain ⟨q0, q1, q2, q3, q4, q5, q6, q7, q8, q9, q10, ql⟩ := own11 HX.out.rx
  obtain ⟨y0, y1, y2, y3, y4, y5, y6, y7, y8, y9, y10, yl⟩ := own11 HX.out.ry
  go_enter Tryz.func49, Tryz.ntmps49
  go_wp2_with (first | (go_at_call 78; refine (hHN _).mono ?_; rintro e w9 ⟨rfl, rfl⟩) | (go_at_call 79; refine (hHA _).mono ?_; rintro e w9 ⟨rfl, rfl⟩) | (go_at_call 80; refine (hHT _).mono ?_; rintro e w9 ⟨rfl, rfl⟩) | (go_at_call 81; refine (hHU _).mono ?_; rintro e w9 ⟨rfl, rfl⟩))
  have HD := Lib.hid HX.out.below0
  have KX := Lib.hid HX.out.rx
  have KY := Lib.hid HX.out.ry
  have HST := Lib.hid (OverT.start (HX.out.lies _ HD.out).1 HX.out.n_eq.1)
  have HST2 := Lib.hid (OverT.start (HX.out.lies _ HD.out).2 HX.out.n_eq.2)
  clear q0 q1 q2 q3 q4 q5 q6 q7 q8 q9 q10 ql y0 y1 y2 y3 y4 y5 y6 y7 y8 y9 y10 yl
  generalize ((w.alloc (.cells #[.int .i8 h.kind, .string h.name, .string h.arg, .int .i64 h.num, .int .i8 h.tk, .slice p.TA p.tn p.tc, .int .i8 h.uk, .slice p.UA p.un p.uc, .int .i64 h.label, .int .i64 h.pos, .slice p.A p.n p.c] 28)).alloc (.cells #[.int .i8 h'.kind, .string h'.name, .string h'.arg, .int .i64 h'.num, .int .i8 h'.tk, .slice p'.TA p'.tn p'.tc, .int .i8 h'.uk, .slice p'.UA p'.un p'.uc, .int .i64 h'.label, .int .i64 h'.pos, .slice p'.A p'.n p'.c] 28)) = w1 at *
  go_loopw [5] (fun v wr => ∃ (i : Nat) (rest rest2 : Tm), v = .int .i64 i ∧ OverT w1 wr p.A p.n (Tm.nodes kids) i rest ∧ OverT w1 wr p'.A p'.n (Tm.nodes kids') i rest2 ∧ Tm.reF rest rest2 = R ∧ (Tm.okF rest = true ∧ Tm.okF rest2 = true) ∧ (Tm.hcF rest = false ∧ Tm.hcF rest2 = false)) (fun v _ => p.n - (intOf v).toNat)
  case atStart => exact ⟨0, kids, kids', rfl, HST.out, HST2.out, HR.out, HOK.out.1, HOK.out.2⟩
  case round =>
    obtain ⟨i, rest, rest2, rfl, hO, hO2, hR, hok, hcc⟩ := hrel
    have hbB := HD.out.trans (hO.below.mono HD.out.size)
    obtain ⟨q0, q1, q2, q3, q4, q5, q6, q7, q8, q9, q10, ql⟩ := own11 (heap_below hO.below (heap_lt KX.out) KX.out)
    obtain ⟨y0, y1, y2, y3, y4, y5, y6, y7, y8, y9, y10, yl⟩ := own11 (heap_below hO.below (heap_lt KY.out) KY.out)
    cases rest with
    | nil =>
      have hi : i = p.n := by have := hO.i_eq; simpa [Tm.len] using this
      cases rest2 with
      | node _ _ _ => have h1 := hO2.i_eq; simp only [Tm.len] at h1; have h9 := HNN.out; omega
      | nil =>
      clear hO hO2 hok hcc
      simp only [Tm.reF] at hR
      subst hi
      subst hR
      go_wp2_with fail
      go_ret
      exact ⟨rfl, hbB⟩
    | node h1 kd r =>
      cases rest2 with
      | nil => have h1 := hO2.i_eq; have h2 := hO.i_eq; simp only [Tm.len] at h1 h2; have h9 := HNN.out; omega
      | node h2 kd' r2 =>
      have hst := fun w2 hb => OverT.step (w2 := w2) hO hb
      have hst2 := fun w2 hb => OverT.step (w2 := w2) hO2 hb
      have e1 := hO.i_eq
      have e2 := hO.lies
      have e22 := hO2.lies
      have e3 := hO.sub
      simp only [Tm.len, Tm.nodes, Tm.reF] at e1 e3 hR
      obtain ⟨ok1, ok3⟩ := Tm.okF_node hok.1
      obtain ⟨ok2, ok4⟩ := Tm.okF_node hok.2
      simp only [Tm.hcF, Bool.or_eq_false_iff] at hcc
      have cc1 : Tm.hcT h1 kd = false := by unfold Tm.hcT; rw [Bool.or_eq_false_iff]; exact hcc.1.1
      have cc2 : Tm.hcT h2 kd' = false := by unfold Tm.hcT; rw [Bool.or_eq_false_iff]; exact hcc.2.1
      have HOK2 := Lib.hid (And.intro (And.intro ok3 ok4) (And.intro hcc.1.2 hcc.2.2))
      obtain ⟨bb, oo, p1, hpA, hcs, hfit, hl3, hl4⟩ := e2
      obtain ⟨bb2, oo2, p2, hpA2, hcs2, hfit2, hl32, hl42⟩ := e22
      have E0 : Below wr.heap.size wr wr.drew := (Below.refl _ _).drew
      have hcall := IH.out h1 kd p1 h2 kd' p2 wr.drew (by omega) (Tm.Is.below ⟨hfit, hl3⟩ E0) (Tm.Is.below ⟨hfit2, hl32⟩ E0) ok1 ok2 cc1 cc2
      obtain ⟨c0, c1, c2, c3, c4, c5, c6, c7, c8, c9, c10⟩ := Tm.row hcs
      obtain ⟨d0, d1, d2, d3, d4, d5, d6, d7, d8, d9, d10⟩ := Tm.row hcs2
      have HS1 := Lib.hid hst
      have HS2 := Lib.hid hst2
      have HL := Lib.hid hl4
      have HL2 := Lib.hid hl42
      have HRR := Lib.hid hR
      have hal : Tm.reT h1 kd h2 kd' = (Tm.reH h1 h2 && Tm.reF kd kd') := rfl
      rw [← hal] at HRR
      have j1 : (0 : Int) ≤ (i : Int) ∧ (i : Int) < p.n := by omega
      have j2 : (0 : Int) ≤ (i : Int) ∧ (i : Int) < p'.n := by have h9 := HNN.out; omega
      have HPA := Lib.hid hpA
      have HPA2 := Lib.hid hpA2
      clear hok hcc ok1 ok2 ok3 ok4 cc1 cc2 hst hst2 hl3 hl4 hl32 hl42 hO hO2 hR hcs hcs2 hfit hfit2 hal hpA hpA2
      generalize Tm.reT h1 kd h2 kd' = x at *
      have HCK := Lib.hid hcall
      clear hcall
      generalize hPA : p.A = PA at *
      generalize hPA2 : p'.A = PA2 at *
      obtain rfl : PA = some ⟨bb, oo, none⟩ := HPA.out
      obtain rfl : PA2 = some ⟨bb2, oo2, none⟩ := HPA2.out
      clear hPA hPA2 HPA HPA2
      cases x
      · go_wp2_with fail
        go_still_tail 10, (by kernel_rfl)
        change wpList _ _ _ _ _ wr.drew
        clear q0 q1 q2 q3 q4 q5 q6 q7 q8 q9 q10 ql y0 y1 y2 y3 y4 y5 y6 y7 y8 y9 y10 yl c0 c1 c2 c3 c4 c5 c6 c7 c8 c9 c10 d0 d1 d2 d3 d4 d5 d6 d7 d8 d9 d10
        have hE := hbB.drew
        generalize wr.drew = w5 at *
        go_wp2_with fail
        refine HCK.out.mono ?_
        rintro e w2 ⟨rfl, hb⟩
        go_wp2_with fail
        go_ret
        exact ⟨ret_b (by rw [← HRR.out]; rfl), hE.trans (hb.mono hE.size)⟩
      · go_wp2_with fail
        go_still_tail 10, (by kernel_rfl)
        change wpList _ _ _ _ _ wr.drew
        clear q0 q1 q2 q3 q4 q5 q6 q7 q8 q9 q10 ql y0 y1 y2 y3 y4 y5 y6 y7 y8 y9 y10 yl c0 c1 c2 c3 c4 c5 c6 c7 c8 c9 c10 d0 d1 d2 d3 d4 d5 d6 d7 d8 d9 d10
        generalize wr.drew = w5 at *
        go_wp2_with fail
        refine HCK.out.mono ?_
        rintro e w2 ⟨rfl, hb⟩
        have hbw := E0.trans (hb.mono E0.size)
        have hbb := Lib.hid (HS1.out w2 hbw HL.out)
        have hbb2 := Lib.hid (HS2.out w2 hbw HL2.out)
        have HNX := Lib.hid (show Tm.reF r r2 = R by rw [← HRR.out]; rfl)
        clear hb hbw
        go_wp2_with fail
        go_roundw
        case rel => exact ⟨i + 1, r, r2, by go_num, hbb.out, hbb2.out, HNX.out, HOK2.out.1, HOK2.out.2⟩
        case measure => simp [intOf]; omega
end Go.Proofs.YtfkbdpehdabepaaGreatDoor
