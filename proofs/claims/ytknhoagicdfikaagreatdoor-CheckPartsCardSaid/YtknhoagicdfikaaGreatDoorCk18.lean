/-
  Layer 9: rec.
-/
import Derived.Test.YtknhoagicdfikaaGreatDoorM20
namespace Go.Proofs.YtknhoagicdfikaaGreatDoor
open Go.RowKit
set_option maxHeartbeats 8000000 in
set_option maxRecDepth 100000 in
theorem ckrec_told (rv : Cg.Rv) (K : Nat) (Q : Nat → Prop) (h h1 : Hd) (k1 : Tm) (q1 : Pl) (TA UA : Option Addr) (tn tc un uc kb ko kc : Nat) (l : Ck.Env) (A : Option Addr) (n c : Nat) (wb w : World)
    (hT : Ty.Is wb h.tk h.tkids TA tn tc) (hU : Ty.Is wb h.uk h.ukids UA un uc) (g1 : Ck.KidAt wb kb (ko) h1 q1) (hwb : Below wb.heap.size wb w) (hQ : ∀ b, b < wb.heap.size → Q b) (hS : Shapes w) (hE : Ck.EAt Q w l A n c)
    (hb1 : l.length + 2 + 2 * (Tm.nodes k1 + 1) ≤ 20000) (T1 : Ck.TellsOf rv K wb h1 k1 q1) :
    Calls Tryz.prog 74 #[.agg #[.func (Fn.func rv.fr) #[] rv.cpt, .func (Fn.func rv.fa) #[] #[], .func (Fn.func rv.fm) #[] #[], .func (Fn.func rv.ft) #[] #[], rv.vg], .agg #[.int .i8 h.kind, .string h.name, .string h.arg, .int .i64 h.num, .int .i8 h.tk, .slice TA tn tc, .int .i8 h.uk, .slice UA un uc, .int .i64 h.label, .int .i64 h.pos, .slice (some ⟨kb, ko, none⟩) 1 kc], .slice A n c] w (Ck.Post Q w (Ck.bnd (Cg.ty rv.D K h1 k1 (l ++ [(h.name, (Ck.mk2 3 (Ck.TT h) (Ck.UU h))), (h.arg, Ck.TT h)])) fun b => if rv.D.ag b (Ck.UU h) = true then .ok (Ck.mk2 3 (Ck.TT h) (Ck.UU h)) else Ck.fault h 91)) := by
  obtain ⟨w1, hw1, hB3, H0', H1', H2', hz⟩ := boxes3 w (.cells #[.func (Fn.func rv.fr) #[] rv.cpt, .func (Fn.func rv.fa) #[] #[], .func (Fn.func rv.fm) #[] #[], .func (Fn.func rv.ft) #[] #[], rv.vg] 47) (.cells #[.int .i8 h.kind, .string h.name, .string h.arg, .int .i64 h.num, .int .i8 h.tk, .slice TA tn tc, .int .i8 h.uk, .slice UA un uc, .int .i64 h.label, .int .i64 h.pos, .slice (some ⟨kb, ko, none⟩) 1 kc] 28) (.cells #[.int .i8 0, .slice none 0 0] 25)
  have HW1 := Lib.hid hw1
  have HB3 := Lib.hid hB3
  have H0 := Lib.hid H0'
  have H1 := Lib.hid H1'
  have H2 := Lib.hid H2'
  have HZ := Lib.hid hz
  have HWB := Lib.hid (hwb.trans (hB3.mono hwb.size))
  have HS := Lib.hid (hS.below hB3)
  have hfrom := Lib.hid (fun (W : World) (hb : Below w1.heap.size w1 W) => hB3.trans (hb.mono hB3.size))
  have HQM : Hid (∀ b, b < wb.heap.size → Ck.Cut Q w.heap.size (w.heap.size + 3) b) := Lib.hid (fun b hb => .inl ⟨hQ b hb, Nat.lt_of_lt_of_le hb hwb.size⟩)
  have HE : Hid (Ck.EAt (Ck.Cut Q w.heap.size (w.heap.size + 3)) w1 l A n c) := Lib.hid ((hE.weak (fun b hb hq => .inl ⟨hq, hb⟩)).below hB3)
  have HT : Hid (Ck.Ly (Ck.Cut Q w.heap.size (w.heap.size + 3)) w1 (Ck.TT h) TA tn tc) := Lib.hid (((Ck.Ly.of (a := Ck.TT h) hT).weak (fun b hb _ => HQM.out b hb)).later HWB.out)
  have HU : Hid (Ck.Ly (Ck.Cut Q w.heap.size (w.heap.size + 3)) w1 (Ck.UU h) UA un uc) := Lib.hid (((Ck.Ly.of (a := Ck.UU h) hU).weak (fun b hb _ => HQM.out b hb)).later HWB.out)
  have hnl := hE.n_eq
  have HN := Lib.hid hnl
  have HK := Lib.hid (fun (W : World) (hb : Below w1.heap.size w1 W) => (show W.cell? ⟨w.heap.size, 0, none⟩ = some (.func (Fn.func rv.fr) #[] rv.cpt) ∧ W.cell? ⟨w.heap.size, 1, none⟩ = some (.func (Fn.func rv.fa) #[] #[]) ∧ W.cell? ⟨w.heap.size, 2, none⟩ = some (.func (Fn.func rv.fm) #[] #[]) ∧ W.cell? ⟨w.heap.size, 3, none⟩ = some (.func (Fn.func rv.ft) #[] #[]) ∧ W.cell? ⟨w.heap.size, 4, none⟩ = some rv.vg ∧ W.cell? ⟨w.heap.size + 1, 0, none⟩ = some (.int .i8 h.kind) ∧ W.cell? ⟨w.heap.size + 1, 1, none⟩ = some (.string h.name) ∧ W.cell? ⟨w.heap.size + 1, 2, none⟩ = some (.string h.arg) ∧ W.cell? ⟨w.heap.size + 1, 3, none⟩ = some (.int .i64 h.num) ∧ W.cell? ⟨w.heap.size + 1, 4, none⟩ = some (.int .i8 h.tk) ∧ W.cell? ⟨w.heap.size + 1, 5, none⟩ = some (.slice TA tn tc) ∧ W.cell? ⟨w.heap.size + 1, 6, none⟩ = some (.int .i8 h.uk) ∧ W.cell? ⟨w.heap.size + 1, 7, none⟩ = some (.slice UA un uc) ∧ W.cell? ⟨w.heap.size + 1, 8, none⟩ = some (.int .i64 h.label) ∧ W.cell? ⟨w.heap.size + 1, 9, none⟩ = some (.int .i64 h.pos) ∧ W.cell? ⟨w.heap.size + 1, 10, none⟩ = some (.slice (some ⟨kb, ko, none⟩) 1 kc) from by
    obtain ⟨r0, r1, r2, r3, r4, -⟩ := own5 (heap_below hb (heap_lt H0.out) H0.out)
    obtain ⟨q0, q1, q2, q3, q4, q5, q6, q7, q8, q9, q10, ql⟩ := own11 (heap_below hb (heap_lt H1.out) H1.out)
    exact ⟨r0, r1, r2, r3, r4, q0, q1, q2, q3, q4, q5, q6, q7, q8, q9, q10⟩))
  have HK1 := Lib.hid (fun (W : World) (hb : Below w1.heap.size w1 W) => (show W.cell? ⟨kb, ko, none⟩ = some (.int .i8 h1.kind) ∧ W.cell? ⟨kb, ko + 1, none⟩ = some (.string h1.name) ∧ W.cell? ⟨kb, ko + 2, none⟩ = some (.string h1.arg) ∧ W.cell? ⟨kb, ko + 3, none⟩ = some (.int .i64 h1.num) ∧ W.cell? ⟨kb, ko + 4, none⟩ = some (.int .i8 h1.tk) ∧ W.cell? ⟨kb, ko + 5, none⟩ = some (.slice q1.TA q1.tn q1.tc) ∧ W.cell? ⟨kb, ko + 6, none⟩ = some (.int .i8 h1.uk) ∧ W.cell? ⟨kb, ko + 7, none⟩ = some (.slice q1.UA q1.un q1.uc) ∧ W.cell? ⟨kb, ko + 8, none⟩ = some (.int .i64 h1.label) ∧ W.cell? ⟨kb, ko + 9, none⟩ = some (.int .i64 h1.pos) ∧ W.cell? ⟨kb, ko + 10, none⟩ = some (.slice q1.A q1.n q1.c) from
    ⟨keep_cell (keep_cell (g1 0 _ rfl) HWB.out) hb, keep_cell (keep_cell (g1 1 _ rfl) HWB.out) hb, keep_cell (keep_cell (g1 2 _ rfl) HWB.out) hb, keep_cell (keep_cell (g1 3 _ rfl) HWB.out) hb, keep_cell (keep_cell (g1 4 _ rfl) HWB.out) hb, keep_cell (keep_cell (g1 5 _ rfl) HWB.out) hb, keep_cell (keep_cell (g1 6 _ rfl) HWB.out) hb, keep_cell (keep_cell (g1 7 _ rfl) HWB.out) hb, keep_cell (keep_cell (g1 8 _ rfl) HWB.out) hb, keep_cell (keep_cell (g1 9 _ rfl) HWB.out) hb, keep_cell (keep_cell (g1 10 _ rfl) HWB.out) hb⟩))
  clear hB3 H0' H1' H2' hz hwb hS hE hT hU hnl g1
  obtain ⟨R, hR⟩ : ∃ R, R = (Ck.bnd (Cg.ty rv.D K h1 k1 (l ++ [(h.name, (Ck.mk2 3 (Ck.TT h) (Ck.UU h))), (h.arg, Ck.TT h)])) fun b => if rv.D.ag b (Ck.UU h) = true then .ok (Ck.mk2 3 (Ck.TT h) (Ck.UU h)) else Ck.fault h 91) := ⟨_, rfl⟩
  rw [← hR]
  have HR := Lib.hid hR
  clear hR
  have hn20 : n + 2 ≤ 20000 := by have := HN.out; omega
  go_enter Tryz.func74, Tryz.ntmps74
  go_upto_region 1 with fail
  rw [← HW1.out]
  clear hw1
  obtain ⟨r0, r1, r2, r3, r4, q0', q1', q2', q3', q4', q5', q6', q7', q8', q9', q10'⟩ := HK.out w1 (Below.refl _ _)
  have hA := below_n1 w1 (.cells #[.int .i8 h.tk, .slice TA tn tc, .int .i8 h.uk, .slice UA un uc] 25)
  have hAn := heap_new w1 (.cells #[.int .i8 h.tk, .slice TA tn tc, .int .i8 h.uk, .slice UA un uc] 25)
  have CO := Lib.hid (fun (G : Option Addr) (W : World) => ckof_any 3 G 2 2 W)
  have HF := Lib.hid (Ck.Ly.two (Q := Ck.Cut Q w.heap.size (w.heap.size + 3)) (a := Ck.TT h) (b := Ck.UU h) hAn (.inr (by have := HZ.out; omega)) (HT.out.later hA) (HU.out.later hA) 3 (by decide))
  have HA := Lib.hid hA
  clear hA hAn
  go_wp2_with fail
  refine (CO.out _ _).mono ?_
  rintro e w2 ⟨rfl, hb2⟩
  have hb3 := below_n1 w2 (.cells #[.int .i8 3, .slice (some ⟨w1.heap.size, 0, none⟩) 2 2] 25)
  have HX7 := Lib.hid (heap_new w2 (.cells #[.int .i8 3, .slice (some ⟨w1.heap.size, 0, none⟩) 2 2] 25))
  have HF := Lib.hid (HF.out.later (hb2.trans (hb3.mono hb2.size)))
  have hbw := HA.out.trans ((hb2.trans (hb3.mono hb2.size)).mono HA.out.size)
  clear r0 r1 r2 r3 r4 q0' q1' q2' q3' q4' q5' q6' q7' q8' q9' q10'
  clear hb2 hb3
  go_upto_region 2 with fail
  generalize w2.alloc (.cells #[.int .i8 3, .slice (some ⟨w1.heap.size, 0, none⟩) 2 2] 25) = w4 at *
  generalize w2.heap.size = Z7 at *
  generalize hyY : w1.heap.size = Y at HF HX7 ⊢
  clear hyY
  have HBW := Lib.hid hbw
  have HZ' := Lib.hid (Nat.le_trans (show w.heap.size + 3 ≤ _ from by have := HZ.out; omega) HBW.out.size)
  clear HZ
  have HZ := HZ'
  clear HZ'
  clear hbw
  have HK := Lib.hid (fun (W : World) (hb : Below w4.heap.size w4 W) => HK.out W (HBW.out.trans (hb.mono HBW.out.size)))
  have HK1 := Lib.hid (fun (W : World) (hb : Below w4.heap.size w4 W) => HK1.out W (HBW.out.trans (hb.mono HBW.out.size)))
  have hfrom := Lib.hid (fun (W : World) (hb : Below w4.heap.size w4 W) => hfrom.out W (HBW.out.trans (hb.mono HBW.out.size)))
  have HE := Lib.hid (HE.out.below HBW.out)
  have HT := Lib.hid (HT.out.later HBW.out)
  have HU := Lib.hid (HU.out.later HBW.out)
  have HS := Lib.hid (HS.out.below HBW.out)
  have HWB := Lib.hid (HWB.out.trans (HBW.out.mono HWB.out.size))
  have H2 := Lib.hid (heap_below HBW.out (heap_lt H2.out) H2.out)
  refine region_inv_end2 40 rfl [15, 16, 17, 18, 19, 20, 21, 22, 23, 24, 25, 26, 27, 28, 29, 30, 31, 32, 8] (by kernel_rfl) (by kernel_rfl) (by kernel_rfl) (fun listed a' w' => a'.defers = [] ∧ a'.tmps.size = 40 ∧ (a'.eval (.tmp 2) = .slice A n c ∧ a'.eval (.tmp 3) = .pointer (some ⟨w.heap.size, 0, none⟩) ∧ a'.eval (.tmp 4) = .pointer (some ⟨w.heap.size + 1, 0, none⟩) ∧ a'.eval (.tmp 6) = .pointer (some ⟨w.heap.size + 1 + 1, 0, none⟩) ∧ a'.eval (.tmp 7) = .pointer (some ⟨Z7, 0, none⟩)) ∧ ∃ Z8 X Gw kw Gb mb cb t2, (listed[0]? = some true → (a'.eval (.tmp 15) = .agg #[.func (Fn.func rv.fr) #[] rv.cpt, .func (Fn.func rv.fa) #[] #[], .func (Fn.func rv.fm) #[] #[], .func (Fn.func rv.ft) #[] #[], rv.vg])) ∧ (listed[1]? = some true → (a'.eval (.tmp 16) = .pointer (some ⟨w.heap.size + 1, 10, none⟩))) ∧ (listed[2]? = some true → (a'.eval (.tmp 17) = .slice (some ⟨kb, ko, none⟩) 1 kc)) ∧ (listed[3]? = some true → (a'.eval (.tmp 18) = .pointer (some ⟨kb, ko, none⟩))) ∧ (listed[4]? = some true → (a'.eval (.tmp 19) = .agg #[.int .i8 h1.kind, .string h1.name, .string h1.arg, .int .i64 h1.num, .int .i8 h1.tk, .slice q1.TA q1.tn q1.tc, .int .i8 h1.uk, .slice q1.UA q1.un q1.uc, .int .i64 h1.label, .int .i64 h1.pos, .slice q1.A q1.n q1.c])) ∧ (listed[5]? = some true → (a'.eval (.tmp 20) = .slice A n c)) ∧ (listed[6]? = some true → (a'.eval (.tmp 21) = .pointer (some ⟨w.heap.size + 1, 1, none⟩))) ∧ (listed[7]? = some true → (a'.eval (.tmp 22) = .string h.name)) ∧ (listed[8]? = some true → (a'.eval (.tmp 23) = .agg #[.int .i8 3, .slice (some ⟨Y, 0, none⟩) 2 2])) ∧ (listed[9]? = some true → (a'.eval (.tmp 24) = .agg #[.string h.name, .int .i8 3, .slice (some ⟨Y, 0, none⟩) 2 2])) ∧ (listed[10]? = some true → (a'.eval (.tmp 25) = .pointer (some ⟨w.heap.size + 1, 2, none⟩))) ∧ (listed[11]? = some true → (a'.eval (.tmp 26) = .string h.arg)) ∧ (listed[12]? = some true → (a'.eval (.tmp 27) = .pointer (some ⟨w.heap.size + 1, 4, none⟩))) ∧ (listed[13]? = some true → (a'.eval (.tmp 28) = .agg #[.int .i8 h.tk, .slice TA tn tc])) ∧ (listed[14]? = some true → (a'.eval (.tmp 29) = .agg #[.string h.arg, .int .i8 h.tk, .slice TA tn tc])) ∧ (listed[15]? = some true → (a'.eval (.tmp 30) = .slice (some ⟨X, 0, none⟩) 2 2) ∧ ((listed[16]? = some false → Ck.EAt (fun b => Ck.Cut Q w.heap.size (w.heap.size + 3) b ∧ b ≠ Z8) w' [(h.name, (Ck.mk2 3 (Ck.TT h) (Ck.UU h))), (h.arg, Ck.TT h)] (some ⟨X, 0, none⟩) 2 2))) ∧ (listed[16]? = some true → (a'.eval (.tmp 31) = .slice Gw (n + 2) kw) ∧ ((listed[17]? = some false → Ck.EAt (fun b => Ck.Cut Q w.heap.size (w.heap.size + 3) b ∧ b ≠ Z8) w' (l ++ [(h.name, (Ck.mk2 3 (Ck.TT h) (Ck.UU h))), (h.arg, Ck.TT h)]) Gw (n + 2) kw))) ∧ (listed[17]? = some true → (a'.eval (.tmp 32) = .agg #[.int .i8 t2.1, .slice Gb mb cb]) ∧ (listed[16]? = some true) ∧ (Cg.ty rv.D K h1 k1 (l ++ [(h.name, (Ck.mk2 3 (Ck.TT h) (Ck.UU h))), (h.arg, Ck.TT h)]) = .ok t2) ∧ (Ck.Ly (fun b => Ck.Cut Q w.heap.size (w.heap.size + 3) b ∧ b ≠ Z8) w' t2 Gb mb cb)) ∧ (listed[18]? = some true → (a'.eval (.tmp 8) = .pointer (some ⟨Z8, 0, none⟩)) ∧ (w4.heap.size ≤ Z8) ∧ (∃ u0 u1, w'.heap[Z8]? = some (.cells #[u0, u1] 25 (0, 0)))) ∧ (listed[19]? = some true → (listed[17]? = some true) ∧ (listed[18]? = some true) ∧ (w'.heap[Z8]? = some (.cells #[.int .i8 t2.1, .slice Gb mb cb] 25 (0, 0)))) ∧ (Z8 < w'.heap.size ∧ (Z8 = w.heap.size + 2 ∨ w4.heap.size ≤ Z8)) ∧ Below w4.heap.size w4 w') (fun _ _ _ h => h.1) ?_ ?_ ?_
  · have hz := HZ.out
    refine ⟨rfl, rfl, ⟨rfl, rfl, rfl, rfl, rfl⟩, (w.heap.size + 2), 0, none, 0, none, 0, 0, (0, .nil), FH, FH, FH, FH, FH, FH, FH, FH, FH, FH, FH, FH, FH, FH, FH, FH, FH, FH, FH, FH, ⟨(Nat.lt_of_lt_of_le (by omega) (show Below w4.heap.size w4 w4.drew from (Below.refl _ _).drew).size), .inl rfl⟩, (Below.refl _ _).drew⟩
  · rintro listed a' w' i o ⟨hdf, hsz, hx, Z8, X, Gw, kw, Gb, mb, cb, t2, y0, y1, y2, y3, y4, y5, y6, y7, y8, y9, y10, y11, y12, y13, y14, y15, y16, y17, y18, y19, ⟨sZ8, hZZ8⟩, hbw⟩ hz hsz0 ho hi hp
    have hi13 : i < 20 := by
      rcases Nat.lt_or_ge i 20 with q | q
      · exact q
      · rw [Array.getElem?_eq_none (by simpa using q)] at ho; cases ho
    rcases (by omega : i = 0 ∨ i = 1 ∨ i = 2 ∨ i = 3 ∨ i = 4 ∨ i = 5 ∨ i = 6 ∨ i = 7 ∨ i = 8 ∨ i = 9 ∨ i = 10 ∨ i = 11 ∨ i = 12 ∨ i = 13 ∨ i = 14 ∨ i = 15 ∨ i = 16 ∨ i = 17 ∨ i = 18 ∨ i = 19) with rfl | rfl | rfl | rfl | rfl | rfl | rfl | rfl | rfl | rfl | rfl | rfl | rfl | rfl | rfl | rfl | rfl | rfl | rfl | rfl
    · obtain rfl := SI ho
      obtain ⟨c0, c1, c2, c3, c4, c5, c6, c7, c8, c9, c10, c11, c12, c13, c14, c15⟩ := HK.out w' hbw
      exact V_ ho 15 ⟨pd hdf, ps hsz, KX hx, Z8, X, Gw, kw, Gb, mb, cb, t2, (fun _ => pS hsz), K1 y1, K1 y2, K1 y3, K1 y4, K1 y5, K1 y6, K1 y7, K1 y8, K1 y9, K1 y10, K1 y11, K1 y12, K1 y13, K1 y14, (kF y15 (fun q => ⟨pn q.1, (kU q.2 (fun q => q))⟩)), (kF y16 (fun q => ⟨pn q.1, (kU q.2 (fun q => q))⟩)), K1 y17, K1 y18, K1 y19, ⟨sZ8, hZZ8⟩, hbw⟩
    · obtain rfl := SI ho
      exact V_ ho 16 ⟨pd hdf, ps hsz, KX hx, Z8, X, Gw, kw, Gb, mb, cb, t2, K1 y0, (fun _ => pS hsz), K1 y2, K1 y3, K1 y4, K1 y5, K1 y6, K1 y7, K1 y8, K1 y9, K1 y10, K1 y11, K1 y12, K1 y13, K1 y14, (kF y15 (fun q => ⟨pn q.1, (kU q.2 (fun q => q))⟩)), (kF y16 (fun q => ⟨pn q.1, (kU q.2 (fun q => q))⟩)), K1 y17, K1 y18, K1 y19, ⟨sZ8, hZZ8⟩, hbw⟩
    · obtain rfl := SI ho
      have v1 := hpv hp 1 (by simp)
      have ww1 := (y1 v1)
      obtain ⟨c0, c1, c2, c3, c4, c5, c6, c7, c8, c9, c10, c11, c12, c13, c14, c15⟩ := HK.out w' hbw
      exact V_ ho 17 ⟨pd hdf, ps hsz, KX hx, Z8, X, Gw, kw, Gb, mb, cb, t2, K1 y0, K1 y1, (fun _ => pS hsz), K1 y3, K1 y4, K1 y5, K1 y6, K1 y7, K1 y8, K1 y9, K1 y10, K1 y11, K1 y12, K1 y13, K1 y14, (kF y15 (fun q => ⟨pn q.1, (kU q.2 (fun q => q))⟩)), (kF y16 (fun q => ⟨pn q.1, (kU q.2 (fun q => q))⟩)), K1 y17, K1 y18, K1 y19, ⟨sZ8, hZZ8⟩, hbw⟩
    · obtain rfl := SI ho
      have v2 := hpv hp 2 (by simp)
      have ww2 := (y2 v2)
      exact V_ ho 18 ⟨pd hdf, ps hsz, KX hx, Z8, X, Gw, kw, Gb, mb, cb, t2, K1 y0, K1 y1, K1 y2, (fun _ => pS hsz), K1 y4, K1 y5, K1 y6, K1 y7, K1 y8, K1 y9, K1 y10, K1 y11, K1 y12, K1 y13, K1 y14, (kF y15 (fun q => ⟨pn q.1, (kU q.2 (fun q => q))⟩)), (kF y16 (fun q => ⟨pn q.1, (kU q.2 (fun q => q))⟩)), K1 y17, K1 y18, K1 y19, ⟨sZ8, hZZ8⟩, hbw⟩
    · obtain rfl := SI ho
      have v3 := hpv hp 3 (by simp)
      have ww3 := (y3 v3)
      obtain ⟨d1_0, d1_1, d1_2, d1_3, d1_4, d1_5, d1_6, d1_7, d1_8, d1_9, d1_10⟩ := HK1.out w' hbw
      exact V_ ho 19 ⟨pd hdf, ps hsz, KX hx, Z8, X, Gw, kw, Gb, mb, cb, t2, K1 y0, K1 y1, K1 y2, K1 y3, (fun _ => pS hsz), K1 y5, K1 y6, K1 y7, K1 y8, K1 y9, K1 y10, K1 y11, K1 y12, K1 y13, K1 y14, (kF y15 (fun q => ⟨pn q.1, (kU q.2 (fun q => q))⟩)), (kF y16 (fun q => ⟨pn q.1, (kU q.2 (fun q => q))⟩)), K1 y17, K1 y18, K1 y19, ⟨sZ8, hZZ8⟩, hbw⟩
    · obtain rfl := SI ho
      exact V_ ho 20 ⟨pd hdf, ps hsz, KX hx, Z8, X, Gw, kw, Gb, mb, cb, t2, K1 y0, K1 y1, K1 y2, K1 y3, K1 y4, (fun _ => pS hsz), K1 y6, K1 y7, K1 y8, K1 y9, K1 y10, K1 y11, K1 y12, K1 y13, K1 y14, (kF y15 (fun q => ⟨pn q.1, (kU q.2 (fun q => q))⟩)), (kF y16 (fun q => ⟨pn q.1, (kU q.2 (fun q => q))⟩)), K1 y17, K1 y18, K1 y19, ⟨sZ8, hZZ8⟩, hbw⟩
    · obtain rfl := SI ho
      exact V_ ho 21 ⟨pd hdf, ps hsz, KX hx, Z8, X, Gw, kw, Gb, mb, cb, t2, K1 y0, K1 y1, K1 y2, K1 y3, K1 y4, K1 y5, (fun _ => pS hsz), K1 y7, K1 y8, K1 y9, K1 y10, K1 y11, K1 y12, K1 y13, K1 y14, (kF y15 (fun q => ⟨pn q.1, (kU q.2 (fun q => q))⟩)), (kF y16 (fun q => ⟨pn q.1, (kU q.2 (fun q => q))⟩)), K1 y17, K1 y18, K1 y19, ⟨sZ8, hZZ8⟩, hbw⟩
    · obtain rfl := SI ho
      have v6 := hpv hp 6 (by simp)
      have ww6 := (y6 v6)
      obtain ⟨c0, c1, c2, c3, c4, c5, c6, c7, c8, c9, c10, c11, c12, c13, c14, c15⟩ := HK.out w' hbw
      exact V_ ho 22 ⟨pd hdf, ps hsz, KX hx, Z8, X, Gw, kw, Gb, mb, cb, t2, K1 y0, K1 y1, K1 y2, K1 y3, K1 y4, K1 y5, K1 y6, (fun _ => pS hsz), K1 y8, K1 y9, K1 y10, K1 y11, K1 y12, K1 y13, K1 y14, (kF y15 (fun q => ⟨pn q.1, (kU q.2 (fun q => q))⟩)), (kF y16 (fun q => ⟨pn q.1, (kU q.2 (fun q => q))⟩)), K1 y17, K1 y18, K1 y19, ⟨sZ8, hZZ8⟩, hbw⟩
    · obtain rfl := SI ho
      obtain ⟨e0, e1, -, -, -⟩ := own2 (heap_below hbw (heap_lt HX7.out) HX7.out)
      exact V_ ho 23 ⟨pd hdf, ps hsz, KX hx, Z8, X, Gw, kw, Gb, mb, cb, t2, K1 y0, K1 y1, K1 y2, K1 y3, K1 y4, K1 y5, K1 y6, K1 y7, (fun _ => pS hsz), K1 y9, K1 y10, K1 y11, K1 y12, K1 y13, K1 y14, (kF y15 (fun q => ⟨pn q.1, (kU q.2 (fun q => q))⟩)), (kF y16 (fun q => ⟨pn q.1, (kU q.2 (fun q => q))⟩)), K1 y17, K1 y18, K1 y19, ⟨sZ8, hZZ8⟩, hbw⟩
    · obtain rfl := SI ho
      have v7 := hpv hp 7 (by simp)
      have ww7 := (y7 v7)
      have v8 := hpv hp 8 (by simp)
      have ww8 := (y8 v8)
      refine C_ ho 24 (ckbind_any h.name (3) (some ⟨Y, 0, none⟩) 2 2 w') fun e u hg => ?_
      · obtain ⟨he, hb⟩ := hg
        refine ⟨.agg #[.string h.name, .int .i8 3, .slice (some ⟨Y, 0, none⟩) 2 2], he, ?_⟩
        have hbs := hbw.size
        have hzz := HZ.out
        have hbs2 := hb.size
        exact ⟨pd hdf, ps hsz, KX hx, Z8, X, Gw, kw, Gb, mb, cb, t2, K1 y0, K1 y1, K1 y2, K1 y3, K1 y4, K1 y5, K1 y6, K1 y7, K1 y8, (fun _ => pS hsz), K1 y10, K1 y11, K1 y12, K1 y13, K1 y14, (kF y15 (fun q => ⟨pn q.1, (kU q.2 (fun q => (Ck.EAt.below q hb)))⟩)), (kF y16 (fun q => ⟨pn q.1, (kU q.2 (fun q => (Ck.EAt.below q hb)))⟩)), K1 y17, K1 y18, K1 y19, ⟨(by omega), hZZ8⟩, hbw.trans (hb.mono hbw.size)⟩
    · obtain rfl := SI ho
      exact V_ ho 25 ⟨pd hdf, ps hsz, KX hx, Z8, X, Gw, kw, Gb, mb, cb, t2, K1 y0, K1 y1, K1 y2, K1 y3, K1 y4, K1 y5, K1 y6, K1 y7, K1 y8, K1 y9, (fun _ => pS hsz), K1 y11, K1 y12, K1 y13, K1 y14, (kF y15 (fun q => ⟨pn q.1, (kU q.2 (fun q => q))⟩)), (kF y16 (fun q => ⟨pn q.1, (kU q.2 (fun q => q))⟩)), K1 y17, K1 y18, K1 y19, ⟨sZ8, hZZ8⟩, hbw⟩
    · obtain rfl := SI ho
      have v10 := hpv hp 10 (by simp)
      have ww10 := (y10 v10)
      obtain ⟨c0, c1, c2, c3, c4, c5, c6, c7, c8, c9, c10, c11, c12, c13, c14, c15⟩ := HK.out w' hbw
      exact V_ ho 26 ⟨pd hdf, ps hsz, KX hx, Z8, X, Gw, kw, Gb, mb, cb, t2, K1 y0, K1 y1, K1 y2, K1 y3, K1 y4, K1 y5, K1 y6, K1 y7, K1 y8, K1 y9, K1 y10, (fun _ => pS hsz), K1 y12, K1 y13, K1 y14, (kF y15 (fun q => ⟨pn q.1, (kU q.2 (fun q => q))⟩)), (kF y16 (fun q => ⟨pn q.1, (kU q.2 (fun q => q))⟩)), K1 y17, K1 y18, K1 y19, ⟨sZ8, hZZ8⟩, hbw⟩
    · obtain rfl := SI ho
      exact V_ ho 27 ⟨pd hdf, ps hsz, KX hx, Z8, X, Gw, kw, Gb, mb, cb, t2, K1 y0, K1 y1, K1 y2, K1 y3, K1 y4, K1 y5, K1 y6, K1 y7, K1 y8, K1 y9, K1 y10, K1 y11, (fun _ => pS hsz), K1 y13, K1 y14, (kF y15 (fun q => ⟨pn q.1, (kU q.2 (fun q => q))⟩)), (kF y16 (fun q => ⟨pn q.1, (kU q.2 (fun q => q))⟩)), K1 y17, K1 y18, K1 y19, ⟨sZ8, hZZ8⟩, hbw⟩
    · obtain rfl := SI ho
      have v12 := hpv hp 12 (by simp)
      have ww12 := (y12 v12)
      obtain ⟨c0, c1, c2, c3, c4, c5, c6, c7, c8, c9, c10, c11, c12, c13, c14, c15⟩ := HK.out w' hbw
      exact V_ ho 28 ⟨pd hdf, ps hsz, KX hx, Z8, X, Gw, kw, Gb, mb, cb, t2, K1 y0, K1 y1, K1 y2, K1 y3, K1 y4, K1 y5, K1 y6, K1 y7, K1 y8, K1 y9, K1 y10, K1 y11, K1 y12, (fun _ => pS hsz), K1 y14, (kF y15 (fun q => ⟨pn q.1, (kU q.2 (fun q => q))⟩)), (kF y16 (fun q => ⟨pn q.1, (kU q.2 (fun q => q))⟩)), K1 y17, K1 y18, K1 y19, ⟨sZ8, hZZ8⟩, hbw⟩
    · obtain rfl := SI ho
      have v11 := hpv hp 11 (by simp)
      have ww11 := (y11 v11)
      have v13 := hpv hp 13 (by simp)
      have ww13 := (y13 v13)
      refine C_ ho 29 (ckbind_any h.arg (h.tk) TA tn tc w') fun e u hg => ?_
      · obtain ⟨he, hb⟩ := hg
        refine ⟨.agg #[.string h.arg, .int .i8 h.tk, .slice TA tn tc], he, ?_⟩
        have hbs := hbw.size
        have hzz := HZ.out
        have hbs2 := hb.size
        exact ⟨pd hdf, ps hsz, KX hx, Z8, X, Gw, kw, Gb, mb, cb, t2, K1 y0, K1 y1, K1 y2, K1 y3, K1 y4, K1 y5, K1 y6, K1 y7, K1 y8, K1 y9, K1 y10, K1 y11, K1 y12, K1 y13, (fun _ => pS hsz), (kF y15 (fun q => ⟨pn q.1, (kU q.2 (fun q => (Ck.EAt.below q hb)))⟩)), (kF y16 (fun q => ⟨pn q.1, (kU q.2 (fun q => (Ck.EAt.below q hb)))⟩)), K1 y17, K1 y18, K1 y19, ⟨(by omega), hZZ8⟩, hbw.trans (hb.mono hbw.size)⟩
    · obtain rfl := SI ho
      refine wpOp_at ho rfl (wp_value2 30 rfl (v := .slice (some ⟨w'.heap.size, 0, none⟩) 2 2) (w2 := w'.alloc (.cells #[.string h.name, .int .i8 3, .slice (some ⟨Y, 0, none⟩) 2 2, .string h.arg, .int .i8 h.tk, .slice TA tn tc] 133)) ?_ ?_)
      · have v9 := hpv hp 9 (by simp)
        have ww9 := (y9 v9)
        have v14 := hpv hp 14 (by simp)
        have ww14 := (y14 v14)
        exact EV
      · have v9 := hpv hp 9 (by simp)
        have v14 := hpv hp 14 (by simp)
        have hbs := hbw.size
        have hzz := HZ.out
        have hsa : (w'.alloc (.cells #[.string h.name, .int .i8 3, .slice (some ⟨Y, 0, none⟩) 2 2, .string h.arg, .int .i8 h.tk, .slice TA tn tc] 133)).heap.size = w'.heap.size + 1 := by simp
        have hba : Below w'.heap.size w' (w'.alloc (.cells #[.string h.name, .int .i8 3, .slice (some ⟨Y, 0, none⟩) 2 2, .string h.arg, .int .i8 h.tk, .slice TA tn tc] 133)) := (Below.refl _ _).alloc (Nat.le_refl _) _
        have hnew := heap_new w' (.cells #[.string h.name, .int .i8 3, .slice (some ⟨Y, 0, none⟩) 2 2, .string h.arg, .int .i8 h.tk, .slice TA tn tc] 133)
        exact ⟨pd hdf, ps hsz, KX hx, Z8, w'.heap.size, Gw, kw, Gb, mb, cb, t2, K1 y0, K1 y1, K1 y2, K1 y3, K1 y4, K1 y5, K1 y6, K1 y7, K1 y8, K1 y9, K1 y10, K1 y11, K1 y12, K1 y13, K1 y14, (fun _ => ⟨pS hsz, (fun _ => Ck.EAt.two (t := (Ck.mk2 3 (Ck.TT h) (Ck.UU h))) (t' := Ck.TT h) hnew (((HF.out.weak (fun b hl hq => ⟨hq, zne_of HZ.out hZZ8 hl hq⟩)).later hbw).later hba) (((HT.out.weak (fun b hl hq => ⟨hq, zne_of HZ.out hZZ8 hl hq⟩)).later hbw).later hba))⟩), (kF y16 (fun q => ⟨pn q.1, (kU q.2 (fun q => (Ck.EAt.below q hba)))⟩)), K1 y17, K1 y18, K1 y19, ⟨(by omega), hZZ8⟩, hbw.alloc hbw.size _⟩
    · obtain rfl := SI ho
      have v5 := hpv hp 5 (by simp)
      have ww5 := (y5 v5)
      have v15 := hpv hp 15 (by simp)
      have ww15 := (y15 v15).1
      refine C_ ho 31 (ckwith_any (fun b => Ck.Cut Q w.heap.size (w.heap.size + 3) b ∧ b ≠ Z8) l [(h.name, (Ck.mk2 3 (Ck.TT h) (Ck.UU h))), (h.arg, Ck.TT h)] A n c X 2 2 w' (Ck.EAt.below (Ck.EAt.weak HE.out (fun b hl hq => ⟨hq, zne_of HZ.out hZZ8 hl hq⟩)) hbw) (((y15 v15).2) hi) (by decide) hn20) fun e u hg => ?_
      · obtain ⟨Gw', kw', rfl, he, hb⟩ := hg
        refine ⟨.slice Gw' (n + 2) kw', rfl, ?_⟩
        have hbs := hbw.size
        have hzz := HZ.out
        have hbs2 := hb.size
        exact ⟨pd hdf, ps hsz, KX hx, Z8, X, Gw', kw', Gb, mb, cb, t2, K1 y0, K1 y1, K1 y2, K1 y3, K1 y4, K1 y5, K1 y6, K1 y7, K1 y8, K1 y9, K1 y10, K1 y11, K1 y12, K1 y13, K1 y14, (kF y15 (fun q => ⟨pn q.1, (fun qu => (set_self_false qu).elim)⟩)), (fun _ => ⟨pS hsz, (fun _ => he)⟩), KN y17, K1 y18, K1 y19, ⟨(by omega), hZZ8⟩, hbw.trans (hb.mono hbw.size)⟩
    · obtain rfl := SI ho
      have v0 := hpv hp 0 (by simp)
      have ww0 := (y0 v0)
      have v4 := hpv hp 4 (by simp)
      have ww4 := (y4 v4)
      have v16 := hpv hp 16 (by simp)
      have ww16 := (y16 v16).1
      refine M_ ho 32 (T1 (fun b => Ck.Cut Q w.heap.size (w.heap.size + 3) b ∧ b ≠ Z8) (l ++ [(h.name, (Ck.mk2 3 (Ck.TT h) (Ck.UU h))), (h.arg, Ck.TT h)]) Gw (n + 2) kw w' (HWB.out.trans (hbw.mono HWB.out.size)) (fun b hb => ⟨HQM.out b hb, zne_of2 HWB.out HQM.out HZ.out hZZ8 hb⟩) (HS.out.below hbw) (((y16 v16).2) hi) (by rw [List.length_append]; exact hb1)) fun e u hg => ?_
      · rcases Ck.Post.split hg with ⟨E, pp, x, hr1, hg⟩ | ⟨t2', hr1, hg⟩
        · have HP : Ck.Post Q w R e u := by rw [HR.out, hr1]; exact Ck.Gave.from hg (hfrom.out w' hbw)
          obtain ⟨g, rfl, hg2⟩ := hg
          exact .inr ⟨_, rfl, hdf, HP⟩
        · obtain ⟨Gb', mb', cb', rfl, hl, hb⟩ := hg
          refine .inl ?_
          refine ⟨.agg #[.int .i8 t2'.1, .slice Gb' mb' cb'], rfl, ?_⟩
          have hbs := hbw.size
          have hzz := HZ.out
          have hbs2 := hb.size
          exact ⟨pd hdf, ps hsz, KX hx, Z8, X, Gw, kw, Gb', mb', cb', t2', K1 y0, K1 y1, K1 y2, K1 y3, K1 y4, K1 y5, K1 y6, K1 y7, K1 y8, K1 y9, K1 y10, K1 y11, K1 y12, K1 y13, K1 y14, (kF y15 (fun q => ⟨pn q.1, (kU q.2 (fun q => (Ck.EAt.below q hb)))⟩)), (kF y16 (fun q => ⟨pn q.1, (fun qu => (set_self_false qu).elim)⟩)), (fun _ => ⟨pS hsz, (set_keep v16), hr1, Ck.Ly.weak hl (fun b _ hq => cutz_in (by omega) (by omega) hq)⟩), K1 y18, KN y19, ⟨(by omega), hZZ8⟩, hbw.trans (hb.mono hbw.size)⟩
    · obtain rfl := SI ho
      refine wpOp_at ho rfl (wp_value2 8 rfl (v := .pointer (some ⟨w'.heap.size, 0, none⟩)) (w2 := w'.alloc (.cells #[.int .i8 0, .slice none 0 0] 25)) ?_ ?_)
      · exact EV
      · have hbs := hbw.size
        have hzz := HZ.out
        have hsa : (w'.alloc (.cells #[.int .i8 0, .slice none 0 0] 25)).heap.size = w'.heap.size + 1 := by simp
        have hba : Below w'.heap.size w' (w'.alloc (.cells #[.int .i8 0, .slice none 0 0] 25)) := (Below.refl _ _).alloc (Nat.le_refl _) _
        have hnew := heap_new w' (.cells #[.int .i8 0, .slice none 0 0] 25)
        exact ⟨pd hdf, ps hsz, KX hx, w'.heap.size, X, Gw, kw, Gb, mb, cb, t2, K1 y0, K1 y1, K1 y2, K1 y3, K1 y4, K1 y5, K1 y6, K1 y7, K1 y8, K1 y9, K1 y10, K1 y11, K1 y12, K1 y13, K1 y14, (kF y15 (fun q => ⟨pn q.1, (kU q.2 (fun q => (Ck.EAt.below (Ck.EAt.weak q (fun b hl hq => ⟨hq.1, Nat.ne_of_lt hl⟩)) hba)))⟩)), (kF y16 (fun q => ⟨pn q.1, (kU q.2 (fun q => (Ck.EAt.below (Ck.EAt.weak q (fun b hl hq => ⟨hq.1, Nat.ne_of_lt hl⟩)) hba)))⟩)), (kF y17 (fun q => ⟨pn q.1, set_keep q.2.1, q.2.2.1, (Ck.Ly.later (Ck.Ly.weak q.2.2.2 (fun b hl hq => ⟨hq.1, Nat.ne_of_lt hl⟩)) hba)⟩)), (fun _ => ⟨pS hsz, hbs, ⟨_, _, hnew⟩⟩), KN y19, ⟨(by omega), .inr hbs⟩, hbw.alloc hbw.size _⟩
    · obtain rfl := SI ho
      have v18 := hpv hp 18 (by simp)
      have ww18 := (y18 v18).1
      have v17 := hpv hp 17 (by simp)
      have ww17 := (y17 v17).1
      have hlo := ((y18 v18).2.1)
      obtain ⟨u0, u1, hbox⟩ := ((y18 v18).2.2)
      obtain ⟨bc0, bc1, bf0, bf1, -⟩ := own2 hbox
      refine wpOp_at ho rfl (wp_store rfl (w2 := (w'.setCell ⟨Z8, 0, none⟩ (.int .i8 t2.1)).setCell ⟨Z8, 1, none⟩ (.slice Gb mb cb)) ?_ ?_)
      · exact EV
      · have hsa : ((w'.setCell ⟨Z8, 0, none⟩ (.int .i8 t2.1)).setCell ⟨Z8, 1, none⟩ (.slice Gb mb cb)).heap.size = w'.heap.size := by simp
        have hbs := hbw.size
        have hzz := HZ.out
        exact ⟨hdf, hsz, hx, Z8, X, Gw, kw, Gb, mb, cb, t2, K1 y0, K1 y1, K1 y2, K1 y3, K1 y4, K1 y5, K1 y6, K1 y7, K1 y8, K1 y9, K1 y10, K1 y11, K1 y12, K1 y13, K1 y14, (kF y15 (fun q => ⟨q.1, (kT ((y17 v17).2.1))⟩)), (kF y16 (fun q => ⟨q.1, (kT v17)⟩)), K1 y17, (kF y18 (fun q => ⟨q.1, q.2.1, (eh_set q.2.2)⟩)), (fun _ => ⟨(set_keep v17), (set_keep v18), set_two hbox _ _⟩), ⟨(by omega), hZZ8⟩, below_set2 hbw hlo _ _⟩
  · rintro listed u w' t ht hu ⟨-, -, -, Z8, X, Gw, kw, Gb, mb, cb, t2, y0, y1, y2, y3, y4, y5, y6, y7, y8, y9, y10, y11, y12, y13, y14, y15, y16, y17, y18, y19, ⟨sZ8, hZZ8⟩, hbw⟩ hall
    have v17 := hall 17 (by decide)
    have v18 := hall 18 (by decide)
    have v19 := hall 19 (by decide)
    have P1 := Lib.hid ((y17 v17).2.2.1)
    have LB := Lib.hid (Ck.Ly.weak ((y17 v17).2.2.2) (Q' := Ck.Cut Q w.heap.size (w.heap.size + 3)) (fun b _ hq => hq.1))
    have eb8 := ((y18 v18).1)
    have HBX8 := Lib.hid ((y19 v19).2.2)
    rw [hu 8 (by decide) (by decide)] at eb8
    clear y0 y1 y2 y3 y4 y5 y6 y7 y8 y9 y10 y11 y12 y13 y14 y15 y16 y17 y18 y19 v17 v18 v19 hall hu
    simp only [over, List.setIfInBounds_toArray, List.set_cons_succ, List.set_cons_zero, eb8] at ht
    subst ht
    clear eb8
    have HBW := Lib.hid hbw
    have HZ' := Lib.hid (Nat.le_trans (show w.heap.size + 3 ≤ _ from by have := HZ.out; omega) HBW.out.size)
    clear HZ
    have HZ := HZ'
    clear HZ'
    clear hbw
    generalize hw : w' = w5 at *
    clear hw
    have HK := Lib.hid (fun (W : World) (hb : Below w5.heap.size w5 W) => HK.out W (HBW.out.trans (hb.mono HBW.out.size)))
    have hfrom := Lib.hid (fun (W : World) (hb : Below w5.heap.size w5 W) => hfrom.out W (HBW.out.trans (hb.mono HBW.out.size)))
    have HE := Lib.hid (HE.out.below HBW.out)
    have HT := Lib.hid (HT.out.later HBW.out)
    have HU := Lib.hid (HU.out.later HBW.out)
    have HS := Lib.hid (HS.out.below HBW.out)
    have HWB := Lib.hid (HWB.out.trans (HBW.out.mono HWB.out.size))
    have H2 := Lib.hid (heap_below HBW.out (heap_lt H2.out) H2.out)
    have HX7 := Lib.hid (heap_below HBW.out (heap_lt HX7.out) HX7.out)
    have HF := Lib.hid (HF.out.later HBW.out)
    obtain ⟨r0, r1, r2, r3, r4, q0', q1', q2', q3', q4', q5', q6', q7', q8', q9', q10'⟩ := HK.out w5 (Below.refl _ _)
    obtain ⟨s0, s1, -, -, -⟩ := own2 HBX8.out
    have CW := Lib.hid (ckwant_any rv h (⟨TA, tn, tc, UA, un, uc, some ⟨kb, ko, none⟩, 1, kc⟩ : Pl) t2.1 t2.2 Gb mb cb h.uk h.ukids UA un uc w5 LB.out.is HU.out.is HS.out)
    go_wp2_with fail
    refine CW.out.mono ?_
    rintro e w6 hg
    rcases hg with ⟨hq, hg⟩ | ⟨hq, he, hb⟩
    · have HP : Ck.Post Q w R e w6 := by rw [HR.out, P1.out]; show Ck.Post Q w (if rv.D.ag t2 (Ck.UU h) = true then _ else _) e w6; rw [if_neg (ne_of_false (show rv.D.ag t2 (Ck.UU h) = false from hq))]; exact Ck.Gave.from hg (hfrom.out w5 (Below.refl _ _))
      obtain ⟨g, rfl, -⟩ := hg
      go_wp2_with fail
      exact ⟨rfl, HP⟩
    · subst he
      have HB6 := Lib.hid hb
      have H6 := Lib.hid (heap_below hb (heap_lt H2.out) H2.out)
      have X6 := Lib.hid (heap_below hb (heap_lt HX7.out) HX7.out)
      have HF6 := Lib.hid (HF.out.later hb)
      clear hb s0 s1 r0 r1 r2 r3 r4 q0' q1' q2' q3' q4' q5' q6' q7' q8' q9' q10'
      obtain ⟨x0, x1, f0, f1, xl⟩ := own2 H6.out
      obtain ⟨s0, s1, -, -, -⟩ := own2 X6.out
      go_wp2_with fail
      have z3 := set_two H6.out (.int .i8 3) (.slice (some ⟨Y, 0, none⟩) 2 2)
      obtain ⟨k0, k1', -, -, -⟩ := own2 z3
      refine ⟨rfl, .agg #[.int .i8 3, .slice (some ⟨Y, 0, none⟩) 2 2], by simp [results, Tryz.results74, go_sem, k0, k1'], ?_⟩
      rw [HR.out, P1.out]; show Ck.Post Q w (if rv.D.ag t2 (Ck.UU h) = true then _ else _) _ _; rw [if_pos (show rv.D.ag t2 (Ck.UU h) = true from hq)]
      exact ⟨some ⟨Y, 0, none⟩, 2, 2, rfl, (HF6.out.set2 (fun b hq => hq.ne (by omega) (by omega)) _ _).weak (fun b _ hq => hq.out (by omega)), below_set2 (hfrom.out _ HB6.out) (by omega) _ _⟩

end Go.Proofs.YtknhoagicdfikaaGreatDoor
