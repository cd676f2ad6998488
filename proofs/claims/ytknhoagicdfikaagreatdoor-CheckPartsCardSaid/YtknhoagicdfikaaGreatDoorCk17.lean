/-
  Layer 9: a choice by a sum.
-/
import Derived.Test.YtknhoagicdfikaaGreatDoorM20
namespace Go.Proofs.YtknhoagicdfikaaGreatDoor
open Go.RowKit
set_option maxHeartbeats 8000000 in
set_option maxRecDepth 100000 in
theorem ckbranches_told (rv : Cg.Rv) (K : Nat) (Q : Nat → Prop) (h h1 h2 h3 : Hd) (k1 k2 k3 : Tm) (q1 q2 q3 : Pl) (TA UA : Option Addr) (tn tc un uc kb ko kc : Nat) (l : Ck.Env) (A : Option Addr) (n c : Nat) (wb w : World)
    (hT : Ty.Is wb h.tk h.tkids TA tn tc) (hU : Ty.Is wb h.uk h.ukids UA un uc) (g1 : Ck.KidAt wb kb (ko) h1 q1) (g2 : Ck.KidAt wb kb (ko + 11) h2 q2) (g3 : Ck.KidAt wb kb (ko + 22) h3 q3) (hwb : Below wb.heap.size wb w) (hQ : ∀ b, b < wb.heap.size → Q b) (hS : Shapes w) (hE : Ck.EAt Q w l A n c)
    (hb1 : l.length + 2 * (Tm.nodes k1 + 1) ≤ 20000) (hb2 : l.length + 1 + 2 * (Tm.nodes k2 + 1) ≤ 20000) (hb3 : l.length + 1 + 2 * (Tm.nodes k3 + 1) ≤ 20000) (T1 : Ck.TellsOf rv K wb h1 k1 q1) (T2 : Ck.TellsOf rv K wb h2 k2 q2) (T3 : Ck.TellsOf rv K wb h3 k3 q3) :
    Calls Tryz.prog 76 #[.agg #[.func (Fn.func rv.fr) #[] rv.cpt, .func (Fn.func rv.fa) #[] #[], .func (Fn.func rv.fm) #[] #[], .func (Fn.func rv.ft) #[] #[], rv.vg], .agg #[.int .i8 h.kind, .string h.name, .string h.arg, .int .i64 h.num, .int .i8 h.tk, .slice TA tn tc, .int .i8 h.uk, .slice UA un uc, .int .i64 h.label, .int .i64 h.pos, .slice (some ⟨kb, ko, none⟩) 3 kc], .slice A n c] w (Ck.Post Q w (Ck.bnd (Cg.ty rv.D K h1 k1 l) fun a => if rv.D.asO 5 a = true then Ck.bnd (Cg.ty rv.D K h2 k2 (l ++ [(h.name, rv.D.asl 5 a)])) fun b => Ck.bnd (Cg.ty rv.D K h3 k3 (l ++ [(h.arg, rv.D.asr 5 a)])) fun c => Cg.meet rv.D h b c else Ck.fault h 90)) := by
  obtain ⟨w1, hw1, hB3, H0', H1', H2', hz⟩ := boxes3 w (.cells #[.func (Fn.func rv.fr) #[] rv.cpt, .func (Fn.func rv.fa) #[] #[], .func (Fn.func rv.fm) #[] #[], .func (Fn.func rv.ft) #[] #[], rv.vg] 47) (.cells #[.int .i8 h.kind, .string h.name, .string h.arg, .int .i64 h.num, .int .i8 h.tk, .slice TA tn tc, .int .i8 h.uk, .slice UA un uc, .int .i64 h.label, .int .i64 h.pos, .slice (some ⟨kb, ko, none⟩) 3 kc] 28) (.cells #[.int .i8 0, .slice none 0 0] 25)
  have HW1 := Lib.hid hw1
  have HB3 := Lib.hid hB3
  have H0 := Lib.hid H0'
  have H1 := Lib.hid H1'
  have H2 := Lib.hid H2'
  have HZ := Lib.hid hz
  have HWB := Lib.hid (hwb.trans (hB3.mono hwb.size))
  have HS := Lib.hid (hS.below hB3)
  have hfrom := Lib.hid (fun (W : World) (hb : Below w1.heap.size w1 W) => hB3.trans (hb.mono hB3.size))
  have HQM : Hid (∀ b, b < wb.heap.size → Ck.Cut Q w.heap.size (w.heap.size + 3) b) := Lib.hid (fun b hb => .inl ⟨hQ b hb, Nat.lt_of_lt_of_le hb hwb.size⟩)
  have HE : Hid (Ck.EAt (Ck.Cut Q w.heap.size (w.heap.size + 3)) w1 l A n c) := Lib.hid ((hE.weak (fun b hb hq => .inl ⟨hq, hb⟩)).below hB3)
  have HT : Hid (Ck.Ly (Ck.Cut Q w.heap.size (w.heap.size + 3)) w1 (Ck.TT h) TA tn tc) := Lib.hid (((Ck.Ly.of (a := Ck.TT h) hT).weak (fun b hb _ => HQM.out b hb)).later HWB.out)
  have HU : Hid (Ck.Ly (Ck.Cut Q w.heap.size (w.heap.size + 3)) w1 (Ck.UU h) UA un uc) := Lib.hid (((Ck.Ly.of (a := Ck.UU h) hU).weak (fun b hb _ => HQM.out b hb)).later HWB.out)
  have hnl := hE.n_eq
  have HN := Lib.hid hnl
  have HK := Lib.hid (fun (W : World) (hb : Below w1.heap.size w1 W) => (show W.cell? ⟨w.heap.size, 0, none⟩ = some (.func (Fn.func rv.fr) #[] rv.cpt) ∧ W.cell? ⟨w.heap.size, 1, none⟩ = some (.func (Fn.func rv.fa) #[] #[]) ∧ W.cell? ⟨w.heap.size, 2, none⟩ = some (.func (Fn.func rv.fm) #[] #[]) ∧ W.cell? ⟨w.heap.size, 3, none⟩ = some (.func (Fn.func rv.ft) #[] #[]) ∧ W.cell? ⟨w.heap.size, 4, none⟩ = some rv.vg ∧ W.cell? ⟨w.heap.size + 1, 0, none⟩ = some (.int .i8 h.kind) ∧ W.cell? ⟨w.heap.size + 1, 1, none⟩ = some (.string h.name) ∧ W.cell? ⟨w.heap.size + 1, 2, none⟩ = some (.string h.arg) ∧ W.cell? ⟨w.heap.size + 1, 3, none⟩ = some (.int .i64 h.num) ∧ W.cell? ⟨w.heap.size + 1, 4, none⟩ = some (.int .i8 h.tk) ∧ W.cell? ⟨w.heap.size + 1, 5, none⟩ = some (.slice TA tn tc) ∧ W.cell? ⟨w.heap.size + 1, 6, none⟩ = some (.int .i8 h.uk) ∧ W.cell? ⟨w.heap.size + 1, 7, none⟩ = some (.slice UA un uc) ∧ W.cell? ⟨w.heap.size + 1, 8, none⟩ = some (.int .i64 h.label) ∧ W.cell? ⟨w.heap.size + 1, 9, none⟩ = some (.int .i64 h.pos) ∧ W.cell? ⟨w.heap.size + 1, 10, none⟩ = some (.slice (some ⟨kb, ko, none⟩) 3 kc) from by
    obtain ⟨r0, r1, r2, r3, r4, -⟩ := own5 (heap_below hb (heap_lt H0.out) H0.out)
    obtain ⟨q0, q1, q2, q3, q4, q5, q6, q7, q8, q9, q10, ql⟩ := own11 (heap_below hb (heap_lt H1.out) H1.out)
    exact ⟨r0, r1, r2, r3, r4, q0, q1, q2, q3, q4, q5, q6, q7, q8, q9, q10⟩))
  have HK1 := Lib.hid (fun (W : World) (hb : Below w1.heap.size w1 W) => (show W.cell? ⟨kb, ko, none⟩ = some (.int .i8 h1.kind) ∧ W.cell? ⟨kb, ko + 1, none⟩ = some (.string h1.name) ∧ W.cell? ⟨kb, ko + 2, none⟩ = some (.string h1.arg) ∧ W.cell? ⟨kb, ko + 3, none⟩ = some (.int .i64 h1.num) ∧ W.cell? ⟨kb, ko + 4, none⟩ = some (.int .i8 h1.tk) ∧ W.cell? ⟨kb, ko + 5, none⟩ = some (.slice q1.TA q1.tn q1.tc) ∧ W.cell? ⟨kb, ko + 6, none⟩ = some (.int .i8 h1.uk) ∧ W.cell? ⟨kb, ko + 7, none⟩ = some (.slice q1.UA q1.un q1.uc) ∧ W.cell? ⟨kb, ko + 8, none⟩ = some (.int .i64 h1.label) ∧ W.cell? ⟨kb, ko + 9, none⟩ = some (.int .i64 h1.pos) ∧ W.cell? ⟨kb, ko + 10, none⟩ = some (.slice q1.A q1.n q1.c) from
    ⟨keep_cell (keep_cell (g1 0 _ rfl) HWB.out) hb, keep_cell (keep_cell (g1 1 _ rfl) HWB.out) hb, keep_cell (keep_cell (g1 2 _ rfl) HWB.out) hb, keep_cell (keep_cell (g1 3 _ rfl) HWB.out) hb, keep_cell (keep_cell (g1 4 _ rfl) HWB.out) hb, keep_cell (keep_cell (g1 5 _ rfl) HWB.out) hb, keep_cell (keep_cell (g1 6 _ rfl) HWB.out) hb, keep_cell (keep_cell (g1 7 _ rfl) HWB.out) hb, keep_cell (keep_cell (g1 8 _ rfl) HWB.out) hb, keep_cell (keep_cell (g1 9 _ rfl) HWB.out) hb, keep_cell (keep_cell (g1 10 _ rfl) HWB.out) hb⟩))
  have HK2 := Lib.hid (fun (W : World) (hb : Below w1.heap.size w1 W) => (show W.cell? ⟨kb, ko + 11, none⟩ = some (.int .i8 h2.kind) ∧ W.cell? ⟨kb, ko + 12, none⟩ = some (.string h2.name) ∧ W.cell? ⟨kb, ko + 13, none⟩ = some (.string h2.arg) ∧ W.cell? ⟨kb, ko + 14, none⟩ = some (.int .i64 h2.num) ∧ W.cell? ⟨kb, ko + 15, none⟩ = some (.int .i8 h2.tk) ∧ W.cell? ⟨kb, ko + 16, none⟩ = some (.slice q2.TA q2.tn q2.tc) ∧ W.cell? ⟨kb, ko + 17, none⟩ = some (.int .i8 h2.uk) ∧ W.cell? ⟨kb, ko + 18, none⟩ = some (.slice q2.UA q2.un q2.uc) ∧ W.cell? ⟨kb, ko + 19, none⟩ = some (.int .i64 h2.label) ∧ W.cell? ⟨kb, ko + 20, none⟩ = some (.int .i64 h2.pos) ∧ W.cell? ⟨kb, ko + 21, none⟩ = some (.slice q2.A q2.n q2.c) from
    ⟨keep_cell (keep_cell (g2 0 _ rfl) HWB.out) hb, keep_cell (keep_cell (g2 1 _ rfl) HWB.out) hb, keep_cell (keep_cell (g2 2 _ rfl) HWB.out) hb, keep_cell (keep_cell (g2 3 _ rfl) HWB.out) hb, keep_cell (keep_cell (g2 4 _ rfl) HWB.out) hb, keep_cell (keep_cell (g2 5 _ rfl) HWB.out) hb, keep_cell (keep_cell (g2 6 _ rfl) HWB.out) hb, keep_cell (keep_cell (g2 7 _ rfl) HWB.out) hb, keep_cell (keep_cell (g2 8 _ rfl) HWB.out) hb, keep_cell (keep_cell (g2 9 _ rfl) HWB.out) hb, keep_cell (keep_cell (g2 10 _ rfl) HWB.out) hb⟩))
  have HK3 := Lib.hid (fun (W : World) (hb : Below w1.heap.size w1 W) => (show W.cell? ⟨kb, ko + 22, none⟩ = some (.int .i8 h3.kind) ∧ W.cell? ⟨kb, ko + 23, none⟩ = some (.string h3.name) ∧ W.cell? ⟨kb, ko + 24, none⟩ = some (.string h3.arg) ∧ W.cell? ⟨kb, ko + 25, none⟩ = some (.int .i64 h3.num) ∧ W.cell? ⟨kb, ko + 26, none⟩ = some (.int .i8 h3.tk) ∧ W.cell? ⟨kb, ko + 27, none⟩ = some (.slice q3.TA q3.tn q3.tc) ∧ W.cell? ⟨kb, ko + 28, none⟩ = some (.int .i8 h3.uk) ∧ W.cell? ⟨kb, ko + 29, none⟩ = some (.slice q3.UA q3.un q3.uc) ∧ W.cell? ⟨kb, ko + 30, none⟩ = some (.int .i64 h3.label) ∧ W.cell? ⟨kb, ko + 31, none⟩ = some (.int .i64 h3.pos) ∧ W.cell? ⟨kb, ko + 32, none⟩ = some (.slice q3.A q3.n q3.c) from
    ⟨keep_cell (keep_cell (g3 0 _ rfl) HWB.out) hb, keep_cell (keep_cell (g3 1 _ rfl) HWB.out) hb, keep_cell (keep_cell (g3 2 _ rfl) HWB.out) hb, keep_cell (keep_cell (g3 3 _ rfl) HWB.out) hb, keep_cell (keep_cell (g3 4 _ rfl) HWB.out) hb, keep_cell (keep_cell (g3 5 _ rfl) HWB.out) hb, keep_cell (keep_cell (g3 6 _ rfl) HWB.out) hb, keep_cell (keep_cell (g3 7 _ rfl) HWB.out) hb, keep_cell (keep_cell (g3 8 _ rfl) HWB.out) hb, keep_cell (keep_cell (g3 9 _ rfl) HWB.out) hb, keep_cell (keep_cell (g3 10 _ rfl) HWB.out) hb⟩))
  clear hB3 H0' H1' H2' hz hwb hS hE hT hU hnl g1 g2 g3
  obtain ⟨R, hR⟩ : ∃ R, R = (Ck.bnd (Cg.ty rv.D K h1 k1 l) fun a => if rv.D.asO 5 a = true then Ck.bnd (Cg.ty rv.D K h2 k2 (l ++ [(h.name, rv.D.asl 5 a)])) fun b => Ck.bnd (Cg.ty rv.D K h3 k3 (l ++ [(h.arg, rv.D.asr 5 a)])) fun c => Cg.meet rv.D h b c else Ck.fault h 90) := ⟨_, rfl⟩
  rw [← hR]
  have HR := Lib.hid hR
  clear hR
  have CT1 := Lib.hid (fun (W : World) (hb : Below w1.heap.size w1 W) => T1 (Ck.Cut Q w.heap.size (w.heap.size + 3)) l A n c W (HWB.out.trans (hb.mono HWB.out.size)) HQM.out (HS.out.below hb) (HE.out.below hb) hb1)
  have hn20 : n + 1 ≤ 20000 := by have := HN.out; omega
  go_enter Tryz.func76, Tryz.ntmps76
  go_upto_region 1 with fail
  rw [← HW1.out]
  clear hw1
  refine region_inv_end2 55 rfl [12, 13, 14, 15, 16, 17, 18, 19, 20, 21, 11, 22, 23, 7, 8] (by kernel_rfl) (by kernel_rfl) (by kernel_rfl) (fun listed a' w' => a'.defers = [] ∧ a'.tmps.size = 55 ∧ (a'.eval (.tmp 2) = .slice A n c ∧ a'.eval (.tmp 3) = .pointer (some ⟨w.heap.size, 0, none⟩) ∧ a'.eval (.tmp 4) = .pointer (some ⟨w.heap.size + 1, 0, none⟩) ∧ a'.eval (.tmp 6) = .pointer (some ⟨w.heap.size + 1 + 1, 0, none⟩)) ∧ ∃ Z1 Z2 Ga ma ca t1 Gl ml cl Gr mr cr, (listed[0]? = some true → (a'.eval (.tmp 12) = .agg #[.func (Fn.func rv.fr) #[] rv.cpt, .func (Fn.func rv.fa) #[] #[], .func (Fn.func rv.fm) #[] #[], .func (Fn.func rv.ft) #[] #[], rv.vg])) ∧ (listed[1]? = some true → (a'.eval (.tmp 13) = .agg #[.int .i8 h.kind, .string h.name, .string h.arg, .int .i64 h.num, .int .i8 h.tk, .slice TA tn tc, .int .i8 h.uk, .slice UA un uc, .int .i64 h.label, .int .i64 h.pos, .slice (some ⟨kb, ko, none⟩) 3 kc])) ∧ (listed[2]? = some true → (a'.eval (.tmp 14) = .agg #[.func (Fn.func rv.fr) #[] rv.cpt, .func (Fn.func rv.fa) #[] #[], .func (Fn.func rv.fm) #[] #[], .func (Fn.func rv.ft) #[] #[], rv.vg])) ∧ (listed[3]? = some true → (a'.eval (.tmp 15) = .pointer (some ⟨w.heap.size + 1, 10, none⟩))) ∧ (listed[4]? = some true → (a'.eval (.tmp 16) = .slice (some ⟨kb, ko, none⟩) 3 kc)) ∧ (listed[5]? = some true → (a'.eval (.tmp 17) = .pointer (some ⟨kb, ko, none⟩))) ∧ (listed[6]? = some true → (a'.eval (.tmp 18) = .agg #[.int .i8 h1.kind, .string h1.name, .string h1.arg, .int .i64 h1.num, .int .i8 h1.tk, .slice q1.TA q1.tn q1.tc, .int .i8 h1.uk, .slice q1.UA q1.un q1.uc, .int .i64 h1.label, .int .i64 h1.pos, .slice q1.A q1.n q1.c])) ∧ (listed[7]? = some true → (a'.eval (.tmp 19) = .slice A n c)) ∧ (listed[8]? = some true → (a'.eval (.tmp 20) = .agg #[.int .i8 t1.1, .slice Ga ma ca]) ∧ (Cg.ty rv.D K h1 k1 (l) = .ok t1) ∧ ((listed[9]? = some false → Ck.Ly (fun b => Ck.Cut Q w.heap.size (w.heap.size + 3) b ∧ b ≠ Z1 ∧ b ≠ Z2) w' t1 Ga ma ca))) ∧ (listed[9]? = some true → (a'.eval (.tmp 21) = .tuple #[.agg #[.int .i8 (rv.D.asl 5 t1).1, .slice Gl ml cl], .agg #[.int .i8 (rv.D.asr 5 t1).1, .slice Gr mr cr]]) ∧ (listed[8]? = some true) ∧ (rv.D.asO 5 t1 = true) ∧ (Ck.Ly (fun b => Ck.Cut Q w.heap.size (w.heap.size + 3) b ∧ b ≠ Z1 ∧ b ≠ Z2) w' (rv.D.asl 5 t1) Gl ml cl) ∧ (Ck.Ly (fun b => Ck.Cut Q w.heap.size (w.heap.size + 3) b ∧ b ≠ Z1 ∧ b ≠ Z2) w' (rv.D.asr 5 t1) Gr mr cr)) ∧ (listed[10]? = some true → (a'.eval (.tmp 11) = .tuple #[.agg #[.int .i8 (rv.D.asl 5 t1).1, .slice Gl ml cl], .agg #[.int .i8 (rv.D.asr 5 t1).1, .slice Gr mr cr]]) ∧ (listed[8]? = some true) ∧ (listed[9]? = some true)) ∧ (listed[11]? = some true → (a'.eval (.tmp 22) = .agg #[.int .i8 (rv.D.asl 5 t1).1, .slice Gl ml cl]) ∧ (listed[8]? = some true) ∧ (listed[9]? = some true)) ∧ (listed[12]? = some true → (a'.eval (.tmp 23) = .agg #[.int .i8 (rv.D.asr 5 t1).1, .slice Gr mr cr]) ∧ (listed[8]? = some true) ∧ (listed[9]? = some true)) ∧ (listed[13]? = some true → (a'.eval (.tmp 7) = .pointer (some ⟨Z1, 0, none⟩)) ∧ (w1.heap.size ≤ Z1) ∧ (Z1 ≠ Z2) ∧ (∃ u0 u1, w'.heap[Z1]? = some (.cells #[u0, u1] 25 (0, 0)))) ∧ (listed[14]? = some true → (a'.eval (.tmp 8) = .pointer (some ⟨Z2, 0, none⟩)) ∧ (w1.heap.size ≤ Z2) ∧ (Z1 ≠ Z2) ∧ (∃ u0 u1, w'.heap[Z2]? = some (.cells #[u0, u1] 25 (0, 0)))) ∧ (listed[15]? = some true → (listed[8]? = some true) ∧ (listed[9]? = some true) ∧ (listed[13]? = some true) ∧ (w'.heap[Z1]? = some (.cells #[.int .i8 (rv.D.asl 5 t1).1, .slice Gl ml cl] 25 (0, 0)))) ∧ (listed[16]? = some true → (listed[8]? = some true) ∧ (listed[9]? = some true) ∧ (listed[14]? = some true) ∧ (w'.heap[Z2]? = some (.cells #[.int .i8 (rv.D.asr 5 t1).1, .slice Gr mr cr] 25 (0, 0)))) ∧ (Z1 < w'.heap.size ∧ (Z1 = w.heap.size + 2 ∨ w1.heap.size ≤ Z1)) ∧ (Z2 < w'.heap.size ∧ (Z2 = w.heap.size + 2 ∨ w1.heap.size ≤ Z2)) ∧ Below w1.heap.size w1 w') (fun _ _ _ h => h.1) ?_ ?_ ?_
  · have hz := HZ.out
    refine ⟨rfl, rfl, ⟨rfl, rfl, rfl, rfl⟩, (w.heap.size + 2), (w.heap.size + 2), none, 0, 0, (0, .nil), none, 0, 0, none, 0, 0, FH, FH, FH, FH, FH, FH, FH, FH, FH, FH, FH, FH, FH, FH, FH, FH, FH, ⟨(Nat.lt_of_lt_of_le (by omega) (show Below w1.heap.size w1 w1.drew from (Below.refl _ _).drew).size), .inl rfl⟩, ⟨(Nat.lt_of_lt_of_le (by omega) (show Below w1.heap.size w1 w1.drew from (Below.refl _ _).drew).size), .inl rfl⟩, (Below.refl _ _).drew⟩
  · rintro listed a' w' i o ⟨hdf, hsz, hx, Z1, Z2, Ga, ma, ca, t1, Gl, ml, cl, Gr, mr, cr, y0, y1, y2, y3, y4, y5, y6, y7, y8, y9, y10, y11, y12, y13, y14, y15, y16, ⟨sZ1, hZZ1⟩, ⟨sZ2, hZZ2⟩, hbw⟩ hz hsz0 ho hi hp
    have hi13 : i < 17 := by
      rcases Nat.lt_or_ge i 17 with q | q
      · exact q
      · rw [Array.getElem?_eq_none (by simpa using q)] at ho; cases ho
    rcases (by omega : i = 0 ∨ i = 1 ∨ i = 2 ∨ i = 3 ∨ i = 4 ∨ i = 5 ∨ i = 6 ∨ i = 7 ∨ i = 8 ∨ i = 9 ∨ i = 10 ∨ i = 11 ∨ i = 12 ∨ i = 13 ∨ i = 14 ∨ i = 15 ∨ i = 16) with rfl | rfl | rfl | rfl | rfl | rfl | rfl | rfl | rfl | rfl | rfl | rfl | rfl | rfl | rfl | rfl | rfl
    · obtain rfl := SI ho
      obtain ⟨c0, c1, c2, c3, c4, c5, c6, c7, c8, c9, c10, c11, c12, c13, c14, c15⟩ := HK.out w' hbw
      exact V_ ho 12 ⟨pd hdf, ps hsz, KX hx, Z1, Z2, Ga, ma, ca, t1, Gl, ml, cl, Gr, mr, cr, (fun _ => pS hsz), K1 y1, K1 y2, K1 y3, K1 y4, K1 y5, K1 y6, K1 y7, (kF y8 (fun q => ⟨pn q.1, q.2.1, (kU q.2.2 (fun q => q))⟩)), K1 y9, K1 y10, K1 y11, K1 y12, K1 y13, K1 y14, K1 y15, K1 y16, ⟨sZ1, hZZ1⟩, ⟨sZ2, hZZ2⟩, hbw⟩
    · obtain rfl := SI ho
      obtain ⟨c0, c1, c2, c3, c4, c5, c6, c7, c8, c9, c10, c11, c12, c13, c14, c15⟩ := HK.out w' hbw
      exact V_ ho 13 ⟨pd hdf, ps hsz, KX hx, Z1, Z2, Ga, ma, ca, t1, Gl, ml, cl, Gr, mr, cr, K1 y0, (fun _ => pS hsz), K1 y2, K1 y3, K1 y4, K1 y5, K1 y6, K1 y7, (kF y8 (fun q => ⟨pn q.1, q.2.1, (kU q.2.2 (fun q => q))⟩)), K1 y9, K1 y10, K1 y11, K1 y12, K1 y13, K1 y14, K1 y15, K1 y16, ⟨sZ1, hZZ1⟩, ⟨sZ2, hZZ2⟩, hbw⟩
    · obtain rfl := SI ho
      obtain ⟨c0, c1, c2, c3, c4, c5, c6, c7, c8, c9, c10, c11, c12, c13, c14, c15⟩ := HK.out w' hbw
      exact V_ ho 14 ⟨pd hdf, ps hsz, KX hx, Z1, Z2, Ga, ma, ca, t1, Gl, ml, cl, Gr, mr, cr, K1 y0, K1 y1, (fun _ => pS hsz), K1 y3, K1 y4, K1 y5, K1 y6, K1 y7, (kF y8 (fun q => ⟨pn q.1, q.2.1, (kU q.2.2 (fun q => q))⟩)), K1 y9, K1 y10, K1 y11, K1 y12, K1 y13, K1 y14, K1 y15, K1 y16, ⟨sZ1, hZZ1⟩, ⟨sZ2, hZZ2⟩, hbw⟩
    · obtain rfl := SI ho
      exact V_ ho 15 ⟨pd hdf, ps hsz, KX hx, Z1, Z2, Ga, ma, ca, t1, Gl, ml, cl, Gr, mr, cr, K1 y0, K1 y1, K1 y2, (fun _ => pS hsz), K1 y4, K1 y5, K1 y6, K1 y7, (kF y8 (fun q => ⟨pn q.1, q.2.1, (kU q.2.2 (fun q => q))⟩)), K1 y9, K1 y10, K1 y11, K1 y12, K1 y13, K1 y14, K1 y15, K1 y16, ⟨sZ1, hZZ1⟩, ⟨sZ2, hZZ2⟩, hbw⟩
    · obtain rfl := SI ho
      have v3 := hpv hp 3 (by simp)
      have ww3 := (y3 v3)
      obtain ⟨c0, c1, c2, c3, c4, c5, c6, c7, c8, c9, c10, c11, c12, c13, c14, c15⟩ := HK.out w' hbw
      exact V_ ho 16 ⟨pd hdf, ps hsz, KX hx, Z1, Z2, Ga, ma, ca, t1, Gl, ml, cl, Gr, mr, cr, K1 y0, K1 y1, K1 y2, K1 y3, (fun _ => pS hsz), K1 y5, K1 y6, K1 y7, (kF y8 (fun q => ⟨pn q.1, q.2.1, (kU q.2.2 (fun q => q))⟩)), K1 y9, K1 y10, K1 y11, K1 y12, K1 y13, K1 y14, K1 y15, K1 y16, ⟨sZ1, hZZ1⟩, ⟨sZ2, hZZ2⟩, hbw⟩
    · obtain rfl := SI ho
      have v4 := hpv hp 4 (by simp)
      have ww4 := (y4 v4)
      exact V_ ho 17 ⟨pd hdf, ps hsz, KX hx, Z1, Z2, Ga, ma, ca, t1, Gl, ml, cl, Gr, mr, cr, K1 y0, K1 y1, K1 y2, K1 y3, K1 y4, (fun _ => pS hsz), K1 y6, K1 y7, (kF y8 (fun q => ⟨pn q.1, q.2.1, (kU q.2.2 (fun q => q))⟩)), K1 y9, K1 y10, K1 y11, K1 y12, K1 y13, K1 y14, K1 y15, K1 y16, ⟨sZ1, hZZ1⟩, ⟨sZ2, hZZ2⟩, hbw⟩
    · obtain rfl := SI ho
      have v5 := hpv hp 5 (by simp)
      have ww5 := (y5 v5)
      obtain ⟨d1_0, d1_1, d1_2, d1_3, d1_4, d1_5, d1_6, d1_7, d1_8, d1_9, d1_10⟩ := HK1.out w' hbw
      exact V_ ho 18 ⟨pd hdf, ps hsz, KX hx, Z1, Z2, Ga, ma, ca, t1, Gl, ml, cl, Gr, mr, cr, K1 y0, K1 y1, K1 y2, K1 y3, K1 y4, K1 y5, (fun _ => pS hsz), K1 y7, (kF y8 (fun q => ⟨pn q.1, q.2.1, (kU q.2.2 (fun q => q))⟩)), K1 y9, K1 y10, K1 y11, K1 y12, K1 y13, K1 y14, K1 y15, K1 y16, ⟨sZ1, hZZ1⟩, ⟨sZ2, hZZ2⟩, hbw⟩
    · obtain rfl := SI ho
      exact V_ ho 19 ⟨pd hdf, ps hsz, KX hx, Z1, Z2, Ga, ma, ca, t1, Gl, ml, cl, Gr, mr, cr, K1 y0, K1 y1, K1 y2, K1 y3, K1 y4, K1 y5, K1 y6, (fun _ => pS hsz), (kF y8 (fun q => ⟨pn q.1, q.2.1, (kU q.2.2 (fun q => q))⟩)), K1 y9, K1 y10, K1 y11, K1 y12, K1 y13, K1 y14, K1 y15, K1 y16, ⟨sZ1, hZZ1⟩, ⟨sZ2, hZZ2⟩, hbw⟩
    · obtain rfl := SI ho
      have v2 := hpv hp 2 (by simp)
      have ww2 := (y2 v2)
      have v6 := hpv hp 6 (by simp)
      have ww6 := (y6 v6)
      have v7 := hpv hp 7 (by simp)
      have ww7 := (y7 v7)
      refine M_ ho 20 (T1 (fun b => Ck.Cut Q w.heap.size (w.heap.size + 3) b ∧ b ≠ Z1 ∧ b ≠ Z2) l A n c w' (HWB.out.trans (hbw.mono HWB.out.size)) (fun b hb => ⟨HQM.out b hb, zne_of2 HWB.out HQM.out (Nat.le_of_eq HZ.out.symm) hZZ1 hb, zne_of2 HWB.out HQM.out (Nat.le_of_eq HZ.out.symm) hZZ2 hb⟩) (HS.out.below hbw) (Ck.EAt.below (Ck.EAt.weak HE.out (fun b hl hq => ⟨hq, zne_of (Nat.le_of_eq HZ.out.symm) hZZ1 hl hq, zne_of (Nat.le_of_eq HZ.out.symm) hZZ2 hl hq⟩)) hbw) hb1) fun e u hg => ?_
      · rcases Ck.Post.split hg with ⟨E, pp, x, hr1, hg⟩ | ⟨t1', hr1, hg⟩
        · have HP : Ck.Post Q w R e u := by rw [HR.out, hr1]; exact Ck.Gave.from hg (hfrom.out w' hbw)
          obtain ⟨g, rfl, hg2⟩ := hg
          exact .inr ⟨_, rfl, hdf, HP⟩
        · obtain ⟨Ga', ma', ca', rfl, hl, hb⟩ := hg
          refine .inl ?_
          refine ⟨.agg #[.int .i8 t1'.1, .slice Ga' ma' ca'], rfl, ?_⟩
          have hbs := hbw.size
          have hzz := HZ.out
          have hbs2 := hb.size
          exact ⟨pd hdf, ps hsz, KX hx, Z1, Z2, Ga', ma', ca', t1', Gl, ml, cl, Gr, mr, cr, K1 y0, K1 y1, K1 y2, K1 y3, K1 y4, K1 y5, K1 y6, K1 y7, (fun _ => ⟨pS hsz, hr1, (fun _ => Ck.Ly.weak hl (fun b _ hq => cutz2_in (by omega) (by omega) (by omega) hq))⟩), KN y9, KN y10, KN y11, KN y12, K1 y13, K1 y14, KN y15, KN y16, ⟨(by omega), hZZ1⟩, ⟨(by omega), hZZ2⟩, hbw.trans (hb.mono hbw.size)⟩
    · obtain rfl := SI ho
      have v0 := hpv hp 0 (by simp)
      have ww0 := (y0 v0)
      have v1 := hpv hp 1 (by simp)
      have ww1 := (y1 v1)
      have v8 := hpv hp 8 (by simp)
      have ww8 := (y8 v8).1
      refine M_ ho 21 (ckparts_any rv (fun b => Ck.Cut Q w.heap.size (w.heap.size + 3) b ∧ b ≠ Z1 ∧ b ≠ Z2) h (⟨TA, tn, tc, UA, un, uc, some ⟨kb, ko, none⟩, 3, kc⟩ : Pl) 5 t1 Ga ma ca w' (by decide) (((y8 v8).2.2) hi) (Ty.chk_ok (Cg.ty_ok ((y8 v8).2.1))).1 (HS.out.below hbw)) fun e u hg => ?_
      · rcases hg with ⟨hq, hg⟩ | ⟨hq, hg⟩
        · have HP : Ck.Post Q w R e u := by rw [HR.out, ((y8 v8).2.1)]; show Ck.Post Q w (if rv.D.asO 5 t1 = true then _ else _) e u; rw [if_neg (ne_of_false (show rv.D.asO 5 t1 = false from hq))]; exact Ck.Gave.from hg (hfrom.out w' hbw)
          obtain ⟨g, rfl, hg2⟩ := hg
          exact .inr ⟨_, rfl, hdf, HP⟩
        · obtain ⟨Gl', ml', cl', Gr', mr', cr', rfl, hl, hl2, hb⟩ := hg
          refine .inl ?_
          refine ⟨.tuple #[.agg #[.int .i8 (rv.D.asl 5 t1).1, .slice Gl' ml' cl'], .agg #[.int .i8 (rv.D.asr 5 t1).1, .slice Gr' mr' cr']], rfl, ?_⟩
          have hbs := hbw.size
          have hzz := HZ.out
          have hbs2 := hb.size
          exact ⟨pd hdf, ps hsz, KX hx, Z1, Z2, Ga, ma, ca, t1, Gl', ml', cl', Gr', mr', cr', K1 y0, K1 y1, K1 y2, K1 y3, K1 y4, K1 y5, K1 y6, K1 y7, (kF y8 (fun q => ⟨pn q.1, q.2.1, (fun qu => (set_self_false qu).elim)⟩)), (fun _ => ⟨pS hsz, (set_keep v8), hq, Ck.Ly.weak hl (fun b _ hq => cutz2_in (by omega) (by omega) (by omega) hq), Ck.Ly.weak hl2 (fun b _ hq => cutz2_in (by omega) (by omega) (by omega) hq)⟩), KN y10, KN y11, KN y12, K1 y13, K1 y14, KN y15, KN y16, ⟨(by omega), hZZ1⟩, ⟨(by omega), hZZ2⟩, hbw.trans (hb.mono hbw.size)⟩
    · obtain rfl := SI ho
      have v9 := hpv hp 9 (by simp)
      have ww9 := (y9 v9).1
      exact V_ ho 11 ⟨pd hdf, ps hsz, KX hx, Z1, Z2, Ga, ma, ca, t1, Gl, ml, cl, Gr, mr, cr, K1 y0, K1 y1, K1 y2, K1 y3, K1 y4, K1 y5, K1 y6, K1 y7, (kF y8 (fun q => ⟨pn q.1, q.2.1, (kU q.2.2 (fun q => q))⟩)), K1 y9, (fun _ => ⟨pS hsz, (set_keep ((y9 v9).2.1)), (set_keep v9)⟩), K1 y11, K1 y12, K1 y13, K1 y14, K1 y15, K1 y16, ⟨sZ1, hZZ1⟩, ⟨sZ2, hZZ2⟩, hbw⟩
    · obtain rfl := SI ho
      have v10 := hpv hp 10 (by simp)
      have ww10 := (y10 v10).1
      exact V_ ho 22 ⟨pd hdf, ps hsz, KX hx, Z1, Z2, Ga, ma, ca, t1, Gl, ml, cl, Gr, mr, cr, K1 y0, K1 y1, K1 y2, K1 y3, K1 y4, K1 y5, K1 y6, K1 y7, (kF y8 (fun q => ⟨pn q.1, q.2.1, (kU q.2.2 (fun q => q))⟩)), K1 y9, K1 y10, (fun _ => ⟨pS hsz, (set_keep ((y10 v10).2.1)), (set_keep ((y10 v10).2.2))⟩), K1 y12, K1 y13, K1 y14, K1 y15, K1 y16, ⟨sZ1, hZZ1⟩, ⟨sZ2, hZZ2⟩, hbw⟩
    · obtain rfl := SI ho
      have v10 := hpv hp 10 (by simp)
      have ww10 := (y10 v10).1
      exact V_ ho 23 ⟨pd hdf, ps hsz, KX hx, Z1, Z2, Ga, ma, ca, t1, Gl, ml, cl, Gr, mr, cr, K1 y0, K1 y1, K1 y2, K1 y3, K1 y4, K1 y5, K1 y6, K1 y7, (kF y8 (fun q => ⟨pn q.1, q.2.1, (kU q.2.2 (fun q => q))⟩)), K1 y9, K1 y10, K1 y11, (fun _ => ⟨pS hsz, (set_keep ((y10 v10).2.1)), (set_keep ((y10 v10).2.2))⟩), K1 y13, K1 y14, K1 y15, K1 y16, ⟨sZ1, hZZ1⟩, ⟨sZ2, hZZ2⟩, hbw⟩
    · obtain rfl := SI ho
      refine wpOp_at ho rfl (wp_value2 7 rfl (v := .pointer (some ⟨w'.heap.size, 0, none⟩)) (w2 := w'.alloc (.cells #[.int .i8 0, .slice none 0 0] 25)) ?_ ?_)
      · exact EV
      · have hbs := hbw.size
        have hzz := HZ.out
        have hsa : (w'.alloc (.cells #[.int .i8 0, .slice none 0 0] 25)).heap.size = w'.heap.size + 1 := by simp
        have hba : Below w'.heap.size w' (w'.alloc (.cells #[.int .i8 0, .slice none 0 0] 25)) := (Below.refl _ _).alloc (Nat.le_refl _) _
        have hnew := heap_new w' (.cells #[.int .i8 0, .slice none 0 0] 25)
        exact ⟨pd hdf, ps hsz, KX hx, w'.heap.size, Z2, Ga, ma, ca, t1, Gl, ml, cl, Gr, mr, cr, K1 y0, K1 y1, K1 y2, K1 y3, K1 y4, K1 y5, K1 y6, K1 y7, (kF y8 (fun q => ⟨pn q.1, q.2.1, (kU q.2.2 (fun q => (Ck.Ly.later (Ck.Ly.weak q (fun b hl hq => ⟨hq.1, Nat.ne_of_lt hl, hq.2.2⟩)) hba)))⟩)), (kF y9 (fun q => ⟨pn q.1, set_keep q.2.1, q.2.2.1, (Ck.Ly.later (Ck.Ly.weak q.2.2.2.1 (fun b hl hq => ⟨hq.1, Nat.ne_of_lt hl, hq.2.2⟩)) hba), (Ck.Ly.later (Ck.Ly.weak q.2.2.2.2 (fun b hl hq => ⟨hq.1, Nat.ne_of_lt hl, hq.2.2⟩)) hba)⟩)), K1 y10, K1 y11, K1 y12, (fun _ => ⟨pS hsz, hbs, (by omega), ⟨_, _, hnew⟩⟩), (kF y14 (fun q => ⟨pn q.1, q.2.1, (by omega), (eh_old q.2.2.2)⟩)), KN y15, K1 y16, ⟨(by omega), .inr hbs⟩, ⟨(by omega), hZZ2⟩, hbw.alloc hbw.size _⟩
    · obtain rfl := SI ho
      refine wpOp_at ho rfl (wp_value2 8 rfl (v := .pointer (some ⟨w'.heap.size, 0, none⟩)) (w2 := w'.alloc (.cells #[.int .i8 0, .slice none 0 0] 25)) ?_ ?_)
      · exact EV
      · have hbs := hbw.size
        have hzz := HZ.out
        have hsa : (w'.alloc (.cells #[.int .i8 0, .slice none 0 0] 25)).heap.size = w'.heap.size + 1 := by simp
        have hba : Below w'.heap.size w' (w'.alloc (.cells #[.int .i8 0, .slice none 0 0] 25)) := (Below.refl _ _).alloc (Nat.le_refl _) _
        have hnew := heap_new w' (.cells #[.int .i8 0, .slice none 0 0] 25)
        exact ⟨pd hdf, ps hsz, KX hx, Z1, w'.heap.size, Ga, ma, ca, t1, Gl, ml, cl, Gr, mr, cr, K1 y0, K1 y1, K1 y2, K1 y3, K1 y4, K1 y5, K1 y6, K1 y7, (kF y8 (fun q => ⟨pn q.1, q.2.1, (kU q.2.2 (fun q => (Ck.Ly.later (Ck.Ly.weak q (fun b hl hq => ⟨hq.1, hq.2.1, Nat.ne_of_lt hl⟩)) hba)))⟩)), (kF y9 (fun q => ⟨pn q.1, set_keep q.2.1, q.2.2.1, (Ck.Ly.later (Ck.Ly.weak q.2.2.2.1 (fun b hl hq => ⟨hq.1, hq.2.1, Nat.ne_of_lt hl⟩)) hba), (Ck.Ly.later (Ck.Ly.weak q.2.2.2.2 (fun b hl hq => ⟨hq.1, hq.2.1, Nat.ne_of_lt hl⟩)) hba)⟩)), K1 y10, K1 y11, K1 y12, (kF y13 (fun q => ⟨pn q.1, q.2.1, (by omega), (eh_old q.2.2.2)⟩)), (fun _ => ⟨pS hsz, hbs, (by omega), ⟨_, _, hnew⟩⟩), K1 y15, KN y16, ⟨(by omega), hZZ1⟩, ⟨(by omega), .inr hbs⟩, hbw.alloc hbw.size _⟩
    · obtain rfl := SI ho
      have v13 := hpv hp 13 (by simp)
      have ww13 := (y13 v13).1
      have v11 := hpv hp 11 (by simp)
      have ww11 := (y11 v11).1
      have hne := ((y13 v13).2.2.1)
      have hlo := ((y13 v13).2.1)
      obtain ⟨u0, u1, hbox⟩ := ((y13 v13).2.2.2)
      obtain ⟨bc0, bc1, bf0, bf1, -⟩ := own2 hbox
      refine wpOp_at ho rfl (wp_store rfl (w2 := (w'.setCell ⟨Z1, 0, none⟩ (.int .i8 (rv.D.asl 5 t1).1)).setCell ⟨Z1, 1, none⟩ (.slice Gl ml cl)) ?_ ?_)
      · exact EV
      · have hsa : ((w'.setCell ⟨Z1, 0, none⟩ (.int .i8 (rv.D.asl 5 t1).1)).setCell ⟨Z1, 1, none⟩ (.slice Gl ml cl)).heap.size = w'.heap.size := by simp
        have hbs := hbw.size
        have hzz := HZ.out
        exact ⟨hdf, hsz, hx, Z1, Z2, Ga, ma, ca, t1, Gl, ml, cl, Gr, mr, cr, K1 y0, K1 y1, K1 y2, K1 y3, K1 y4, K1 y5, K1 y6, K1 y7, (kF y8 (fun q => ⟨q.1, q.2.1, (kT ((y11 v11).2.2))⟩)), K1 y9, K1 y10, K1 y11, K1 y12, (kF y13 (fun q => ⟨q.1, q.2.1, q.2.2.1, (eh_set q.2.2.2)⟩)), K1 y14, (fun _ => ⟨(set_keep ((y11 v11).2.1)), (set_keep ((y11 v11).2.2)), (set_keep v13), set_two hbox _ _⟩), K1 y16, ⟨(by omega), hZZ1⟩, ⟨(by omega), hZZ2⟩, below_set2 hbw hlo _ _⟩
    · obtain rfl := SI ho
      have v14 := hpv hp 14 (by simp)
      have ww14 := (y14 v14).1
      have v12 := hpv hp 12 (by simp)
      have ww12 := (y12 v12).1
      have hne := ((y14 v14).2.2.1)
      have hlo := ((y14 v14).2.1)
      obtain ⟨u0, u1, hbox⟩ := ((y14 v14).2.2.2)
      obtain ⟨bc0, bc1, bf0, bf1, -⟩ := own2 hbox
      refine wpOp_at ho rfl (wp_store rfl (w2 := (w'.setCell ⟨Z2, 0, none⟩ (.int .i8 (rv.D.asr 5 t1).1)).setCell ⟨Z2, 1, none⟩ (.slice Gr mr cr)) ?_ ?_)
      · exact EV
      · have hsa : ((w'.setCell ⟨Z2, 0, none⟩ (.int .i8 (rv.D.asr 5 t1).1)).setCell ⟨Z2, 1, none⟩ (.slice Gr mr cr)).heap.size = w'.heap.size := by simp
        have hbs := hbw.size
        have hzz := HZ.out
        exact ⟨hdf, hsz, hx, Z1, Z2, Ga, ma, ca, t1, Gl, ml, cl, Gr, mr, cr, K1 y0, K1 y1, K1 y2, K1 y3, K1 y4, K1 y5, K1 y6, K1 y7, (kF y8 (fun q => ⟨q.1, q.2.1, (kT ((y12 v12).2.2))⟩)), K1 y9, K1 y10, K1 y11, K1 y12, K1 y13, (kF y14 (fun q => ⟨q.1, q.2.1, q.2.2.1, (eh_set q.2.2.2)⟩)), K1 y15, (fun _ => ⟨(set_keep ((y12 v12).2.1)), (set_keep ((y12 v12).2.2)), (set_keep v14), set_two hbox _ _⟩), ⟨(by omega), hZZ1⟩, ⟨(by omega), hZZ2⟩, below_set2 hbw hlo _ _⟩
  · rintro listed u w' t ht hu ⟨-, -, -, Z1, Z2, Ga, ma, ca, t1, Gl, ml, cl, Gr, mr, cr, y0, y1, y2, y3, y4, y5, y6, y7, y8, y9, y10, y11, y12, y13, y14, y15, y16, ⟨sZ1, hZZ1⟩, ⟨sZ2, hZZ2⟩, hbw⟩ hall
    have v8 := hall 8 (by decide)
    have v9 := hall 9 (by decide)
    have v13 := hall 13 (by decide)
    have v14 := hall 14 (by decide)
    have v15 := hall 15 (by decide)
    have v16 := hall 16 (by decide)
    have P1 := Lib.hid ((y8 v8).2.1)
    have P2 := Lib.hid ((y9 v9).2.2.1)
    have LL := Lib.hid (Ck.Ly.weak ((y9 v9).2.2.2.1) (Q' := Ck.Cut Q w.heap.size (w.heap.size + 3)) (fun b _ hq => hq.1))
    have LR := Lib.hid (Ck.Ly.weak ((y9 v9).2.2.2.2) (Q' := Ck.Cut Q w.heap.size (w.heap.size + 3)) (fun b _ hq => hq.1))
    have eb7 := ((y13 v13).1)
    have HBX7 := Lib.hid ((y15 v15).2.2.2)
    have eb8 := ((y14 v14).1)
    have HBX8 := Lib.hid ((y16 v16).2.2.2)
    rw [hu 7 (by decide) (by decide)] at eb7
    rw [hu 8 (by decide) (by decide)] at eb8
    clear y0 y1 y2 y3 y4 y5 y6 y7 y8 y9 y10 y11 y12 y13 y14 y15 y16 v8 v9 v13 v14 v15 v16 hall hu
    simp only [over, List.setIfInBounds_toArray, List.set_cons_succ, List.set_cons_zero, eb7, eb8] at ht
    subst ht
    clear eb7 eb8
    have HBW := Lib.hid hbw
    have HZ' := Lib.hid (Nat.le_trans (show w.heap.size + 3 ≤ _ from by have := HZ.out; omega) HBW.out.size)
    clear HZ
    have HZ := HZ'
    clear HZ'
    clear hbw
    generalize hw : w' = w4 at *
    clear hw
    have HK := Lib.hid (fun (W : World) (hb : Below w4.heap.size w4 W) => HK.out W (HBW.out.trans (hb.mono HBW.out.size)))
    have HK1 := Lib.hid (fun (W : World) (hb : Below w4.heap.size w4 W) => HK1.out W (HBW.out.trans (hb.mono HBW.out.size)))
    have HK2 := Lib.hid (fun (W : World) (hb : Below w4.heap.size w4 W) => HK2.out W (HBW.out.trans (hb.mono HBW.out.size)))
    have HK3 := Lib.hid (fun (W : World) (hb : Below w4.heap.size w4 W) => HK3.out W (HBW.out.trans (hb.mono HBW.out.size)))
    have hfrom := Lib.hid (fun (W : World) (hb : Below w4.heap.size w4 W) => hfrom.out W (HBW.out.trans (hb.mono HBW.out.size)))
    have HE := Lib.hid (HE.out.below HBW.out)
    have HT := Lib.hid (HT.out.later HBW.out)
    have HU := Lib.hid (HU.out.later HBW.out)
    have HS := Lib.hid (HS.out.below HBW.out)
    have HWB := Lib.hid (HWB.out.trans (HBW.out.mono HWB.out.size))
    have H2 := Lib.hid (heap_below HBW.out (heap_lt H2.out) H2.out)
    obtain ⟨r0, r1, r2, r3, r4, q0', q1', q2', q3', q4', q5', q6', q7', q8', q9', q10'⟩ := HK.out w4 (Below.refl _ _)
    go_upto_region 2 with fail
    clear r0 r1 r2 r3 r4 q0' q1' q2' q3' q4' q5' q6' q7' q8' q9' q10'
    refine region_inv_end2 55 rfl [24, 25, 26, 27, 28, 29, 30, 31, 32, 33, 34, 35, 36, 9] (by kernel_rfl) (by kernel_rfl) (by kernel_rfl) (fun listed a' w' => a'.defers = [] ∧ a'.tmps.size = 55 ∧ (a'.eval (.tmp 2) = .slice A n c ∧ a'.eval (.tmp 3) = .pointer (some ⟨w.heap.size, 0, none⟩) ∧ a'.eval (.tmp 4) = .pointer (some ⟨w.heap.size + 1, 0, none⟩) ∧ a'.eval (.tmp 6) = .pointer (some ⟨w.heap.size + 1 + 1, 0, none⟩) ∧ a'.eval (.tmp 7) = .pointer (some ⟨Z1, 0, none⟩) ∧ a'.eval (.tmp 8) = .pointer (some ⟨Z2, 0, none⟩)) ∧ ∃ Z3 X Gw kw Gb mb cb t2, (listed[0]? = some true → (a'.eval (.tmp 24) = .agg #[.func (Fn.func rv.fr) #[] rv.cpt, .func (Fn.func rv.fa) #[] #[], .func (Fn.func rv.fm) #[] #[], .func (Fn.func rv.ft) #[] #[], rv.vg])) ∧ (listed[1]? = some true → (a'.eval (.tmp 25) = .pointer (some ⟨w.heap.size + 1, 10, none⟩))) ∧ (listed[2]? = some true → (a'.eval (.tmp 26) = .slice (some ⟨kb, ko, none⟩) 3 kc)) ∧ (listed[3]? = some true → (a'.eval (.tmp 27) = .pointer (some ⟨kb, ko + 11, none⟩))) ∧ (listed[4]? = some true → (a'.eval (.tmp 28) = .agg #[.int .i8 h2.kind, .string h2.name, .string h2.arg, .int .i64 h2.num, .int .i8 h2.tk, .slice q2.TA q2.tn q2.tc, .int .i8 h2.uk, .slice q2.UA q2.un q2.uc, .int .i64 h2.label, .int .i64 h2.pos, .slice q2.A q2.n q2.c])) ∧ (listed[5]? = some true → (a'.eval (.tmp 29) = .slice A n c)) ∧ (listed[6]? = some true → (a'.eval (.tmp 30) = .pointer (some ⟨w.heap.size + 1, 1, none⟩))) ∧ (listed[7]? = some true → (a'.eval (.tmp 31) = .string h.name)) ∧ (listed[8]? = some true → (a'.eval (.tmp 32) = .agg #[.int .i8 (rv.D.asl 5 t1).1, .slice Gl ml cl])) ∧ (listed[9]? = some true → (a'.eval (.tmp 33) = .agg #[.string h.name, .int .i8 (rv.D.asl 5 t1).1, .slice Gl ml cl])) ∧ (listed[10]? = some true → (a'.eval (.tmp 34) = .slice (some ⟨X, 0, none⟩) 1 1) ∧ ((listed[11]? = some false → Ck.EAt ((fun b => Ck.Cut Q w.heap.size (w.heap.size + 3) b ∧ b ≠ Z3)) w' [(h.name, (rv.D.asl 5 t1))] (some ⟨X, 0, none⟩) 1 1))) ∧ (listed[11]? = some true → (a'.eval (.tmp 35) = .slice Gw (n + 1) kw) ∧ ((listed[12]? = some false → Ck.EAt ((fun b => Ck.Cut Q w.heap.size (w.heap.size + 3) b ∧ b ≠ Z3)) w' (l ++ [(h.name, (rv.D.asl 5 t1))]) Gw (n + 1) kw))) ∧ (listed[12]? = some true → (a'.eval (.tmp 36) = .agg #[.int .i8 t2.1, .slice Gb mb cb]) ∧ (listed[11]? = some true) ∧ (Cg.ty rv.D K h2 k2 (l ++ [(h.name, rv.D.asl 5 t1)]) = .ok t2) ∧ (Ck.Ly (fun b => Ck.Cut Q w.heap.size (w.heap.size + 3) b ∧ b ≠ Z3) w' t2 Gb mb cb)) ∧ (listed[13]? = some true → (a'.eval (.tmp 9) = .pointer (some ⟨Z3, 0, none⟩)) ∧ (w4.heap.size ≤ Z3) ∧ (∃ u0 u1, w'.heap[Z3]? = some (.cells #[u0, u1] 25 (0, 0)))) ∧ (listed[14]? = some true → (listed[12]? = some true) ∧ (listed[13]? = some true) ∧ (w'.heap[Z3]? = some (.cells #[.int .i8 t2.1, .slice Gb mb cb] 25 (0, 0)))) ∧ (Z3 < w'.heap.size ∧ (Z3 = w.heap.size + 2 ∨ w4.heap.size ≤ Z3)) ∧ Below w4.heap.size w4 w') (fun _ _ _ h => h.1) ?_ ?_ ?_
    · have hz := HZ.out
      refine ⟨rfl, rfl, ⟨rfl, rfl, rfl, rfl, rfl, rfl⟩, (w.heap.size + 2), 0, none, 0, none, 0, 0, (0, .nil), FH, FH, FH, FH, FH, FH, FH, FH, FH, FH, FH, FH, FH, FH, FH, ⟨(Nat.lt_of_lt_of_le (by omega) (show Below w4.heap.size w4 w4.drew from (Below.refl _ _).drew).size), .inl rfl⟩, (Below.refl _ _).drew⟩
    · rintro listed a' w' i o ⟨hdf, hsz, hx, Z3, X, Gw, kw, Gb, mb, cb, t2, y0, y1, y2, y3, y4, y5, y6, y7, y8, y9, y10, y11, y12, y13, y14, ⟨sZ3, hZZ3⟩, hbw⟩ hz hsz0 ho hi hp
      have hi13 : i < 15 := by
        rcases Nat.lt_or_ge i 15 with q | q
        · exact q
        · rw [Array.getElem?_eq_none (by simpa using q)] at ho; cases ho
      rcases (by omega : i = 0 ∨ i = 1 ∨ i = 2 ∨ i = 3 ∨ i = 4 ∨ i = 5 ∨ i = 6 ∨ i = 7 ∨ i = 8 ∨ i = 9 ∨ i = 10 ∨ i = 11 ∨ i = 12 ∨ i = 13 ∨ i = 14) with rfl | rfl | rfl | rfl | rfl | rfl | rfl | rfl | rfl | rfl | rfl | rfl | rfl | rfl | rfl
      · obtain rfl := SI ho
        obtain ⟨c0, c1, c2, c3, c4, c5, c6, c7, c8, c9, c10, c11, c12, c13, c14, c15⟩ := HK.out w' hbw
        exact V_ ho 24 ⟨pd hdf, ps hsz, KX hx, Z3, X, Gw, kw, Gb, mb, cb, t2, (fun _ => pS hsz), K1 y1, K1 y2, K1 y3, K1 y4, K1 y5, K1 y6, K1 y7, K1 y8, K1 y9, (kF y10 (fun q => ⟨pn q.1, (kU q.2 (fun q => q))⟩)), (kF y11 (fun q => ⟨pn q.1, (kU q.2 (fun q => q))⟩)), K1 y12, K1 y13, K1 y14, ⟨sZ3, hZZ3⟩, hbw⟩
      · obtain rfl := SI ho
        exact V_ ho 25 ⟨pd hdf, ps hsz, KX hx, Z3, X, Gw, kw, Gb, mb, cb, t2, K1 y0, (fun _ => pS hsz), K1 y2, K1 y3, K1 y4, K1 y5, K1 y6, K1 y7, K1 y8, K1 y9, (kF y10 (fun q => ⟨pn q.1, (kU q.2 (fun q => q))⟩)), (kF y11 (fun q => ⟨pn q.1, (kU q.2 (fun q => q))⟩)), K1 y12, K1 y13, K1 y14, ⟨sZ3, hZZ3⟩, hbw⟩
      · obtain rfl := SI ho
        have v1 := hpv hp 1 (by simp)
        have ww1 := (y1 v1)
        obtain ⟨c0, c1, c2, c3, c4, c5, c6, c7, c8, c9, c10, c11, c12, c13, c14, c15⟩ := HK.out w' hbw
        exact V_ ho 26 ⟨pd hdf, ps hsz, KX hx, Z3, X, Gw, kw, Gb, mb, cb, t2, K1 y0, K1 y1, (fun _ => pS hsz), K1 y3, K1 y4, K1 y5, K1 y6, K1 y7, K1 y8, K1 y9, (kF y10 (fun q => ⟨pn q.1, (kU q.2 (fun q => q))⟩)), (kF y11 (fun q => ⟨pn q.1, (kU q.2 (fun q => q))⟩)), K1 y12, K1 y13, K1 y14, ⟨sZ3, hZZ3⟩, hbw⟩
      · obtain rfl := SI ho
        have v2 := hpv hp 2 (by simp)
        have ww2 := (y2 v2)
        exact V_ ho 27 ⟨pd hdf, ps hsz, KX hx, Z3, X, Gw, kw, Gb, mb, cb, t2, K1 y0, K1 y1, K1 y2, (fun _ => pS hsz), K1 y4, K1 y5, K1 y6, K1 y7, K1 y8, K1 y9, (kF y10 (fun q => ⟨pn q.1, (kU q.2 (fun q => q))⟩)), (kF y11 (fun q => ⟨pn q.1, (kU q.2 (fun q => q))⟩)), K1 y12, K1 y13, K1 y14, ⟨sZ3, hZZ3⟩, hbw⟩
      · obtain rfl := SI ho
        have v3 := hpv hp 3 (by simp)
        have ww3 := (y3 v3)
        obtain ⟨d2_0, d2_1, d2_2, d2_3, d2_4, d2_5, d2_6, d2_7, d2_8, d2_9, d2_10⟩ := HK2.out w' hbw
        exact V_ ho 28 ⟨pd hdf, ps hsz, KX hx, Z3, X, Gw, kw, Gb, mb, cb, t2, K1 y0, K1 y1, K1 y2, K1 y3, (fun _ => pS hsz), K1 y5, K1 y6, K1 y7, K1 y8, K1 y9, (kF y10 (fun q => ⟨pn q.1, (kU q.2 (fun q => q))⟩)), (kF y11 (fun q => ⟨pn q.1, (kU q.2 (fun q => q))⟩)), K1 y12, K1 y13, K1 y14, ⟨sZ3, hZZ3⟩, hbw⟩
      · obtain rfl := SI ho
        exact V_ ho 29 ⟨pd hdf, ps hsz, KX hx, Z3, X, Gw, kw, Gb, mb, cb, t2, K1 y0, K1 y1, K1 y2, K1 y3, K1 y4, (fun _ => pS hsz), K1 y6, K1 y7, K1 y8, K1 y9, (kF y10 (fun q => ⟨pn q.1, (kU q.2 (fun q => q))⟩)), (kF y11 (fun q => ⟨pn q.1, (kU q.2 (fun q => q))⟩)), K1 y12, K1 y13, K1 y14, ⟨sZ3, hZZ3⟩, hbw⟩
      · obtain rfl := SI ho
        exact V_ ho 30 ⟨pd hdf, ps hsz, KX hx, Z3, X, Gw, kw, Gb, mb, cb, t2, K1 y0, K1 y1, K1 y2, K1 y3, K1 y4, K1 y5, (fun _ => pS hsz), K1 y7, K1 y8, K1 y9, (kF y10 (fun q => ⟨pn q.1, (kU q.2 (fun q => q))⟩)), (kF y11 (fun q => ⟨pn q.1, (kU q.2 (fun q => q))⟩)), K1 y12, K1 y13, K1 y14, ⟨sZ3, hZZ3⟩, hbw⟩
      · obtain rfl := SI ho
        have v6 := hpv hp 6 (by simp)
        have ww6 := (y6 v6)
        obtain ⟨c0, c1, c2, c3, c4, c5, c6, c7, c8, c9, c10, c11, c12, c13, c14, c15⟩ := HK.out w' hbw
        exact V_ ho 31 ⟨pd hdf, ps hsz, KX hx, Z3, X, Gw, kw, Gb, mb, cb, t2, K1 y0, K1 y1, K1 y2, K1 y3, K1 y4, K1 y5, K1 y6, (fun _ => pS hsz), K1 y8, K1 y9, (kF y10 (fun q => ⟨pn q.1, (kU q.2 (fun q => q))⟩)), (kF y11 (fun q => ⟨pn q.1, (kU q.2 (fun q => q))⟩)), K1 y12, K1 y13, K1 y14, ⟨sZ3, hZZ3⟩, hbw⟩
      · obtain rfl := SI ho
        obtain ⟨e0, e1, -, -, -⟩ := own2 (heap_below hbw (heap_lt HBX7.out) HBX7.out)
        exact V_ ho 32 ⟨pd hdf, ps hsz, KX hx, Z3, X, Gw, kw, Gb, mb, cb, t2, K1 y0, K1 y1, K1 y2, K1 y3, K1 y4, K1 y5, K1 y6, K1 y7, (fun _ => pS hsz), K1 y9, (kF y10 (fun q => ⟨pn q.1, (kU q.2 (fun q => q))⟩)), (kF y11 (fun q => ⟨pn q.1, (kU q.2 (fun q => q))⟩)), K1 y12, K1 y13, K1 y14, ⟨sZ3, hZZ3⟩, hbw⟩
      · obtain rfl := SI ho
        have v7 := hpv hp 7 (by simp)
        have ww7 := (y7 v7)
        have v8 := hpv hp 8 (by simp)
        have ww8 := (y8 v8)
        refine C_ ho 33 (ckbind_any h.name ((rv.D.asl 5 t1).1) Gl ml cl w') fun e u hg => ?_
        · obtain ⟨he, hb⟩ := hg
          refine ⟨.agg #[.string h.name, .int .i8 (rv.D.asl 5 t1).1, .slice Gl ml cl], he, ?_⟩
          have hbs := hbw.size
          have hzz := HZ.out
          have hbs2 := hb.size
          exact ⟨pd hdf, ps hsz, KX hx, Z3, X, Gw, kw, Gb, mb, cb, t2, K1 y0, K1 y1, K1 y2, K1 y3, K1 y4, K1 y5, K1 y6, K1 y7, K1 y8, (fun _ => pS hsz), (kF y10 (fun q => ⟨pn q.1, (kU q.2 (fun q => (Ck.EAt.below q hb)))⟩)), (kF y11 (fun q => ⟨pn q.1, (kU q.2 (fun q => (Ck.EAt.below q hb)))⟩)), K1 y12, K1 y13, K1 y14, ⟨(by omega), hZZ3⟩, hbw.trans (hb.mono hbw.size)⟩
      · obtain rfl := SI ho
        refine wpOp_at ho rfl (wp_value2 34 rfl (v := .slice (some ⟨w'.heap.size, 0, none⟩) 1 1) (w2 := w'.alloc (.cells #[.string h.name, .int .i8 (rv.D.asl 5 t1).1, .slice Gl ml cl] 133)) ?_ ?_)
        · have v9 := hpv hp 9 (by simp)
          have ww9 := (y9 v9)
          exact EV
        · have v9 := hpv hp 9 (by simp)
          have hbs := hbw.size
          have hzz := HZ.out
          have hsa : (w'.alloc (.cells #[.string h.name, .int .i8 (rv.D.asl 5 t1).1, .slice Gl ml cl] 133)).heap.size = w'.heap.size + 1 := by simp
          have hba : Below w'.heap.size w' (w'.alloc (.cells #[.string h.name, .int .i8 (rv.D.asl 5 t1).1, .slice Gl ml cl] 133)) := (Below.refl _ _).alloc (Nat.le_refl _) _
          have hnew := heap_new w' (.cells #[.string h.name, .int .i8 (rv.D.asl 5 t1).1, .slice Gl ml cl] 133)
          exact ⟨pd hdf, ps hsz, KX hx, Z3, w'.heap.size, Gw, kw, Gb, mb, cb, t2, K1 y0, K1 y1, K1 y2, K1 y3, K1 y4, K1 y5, K1 y6, K1 y7, K1 y8, K1 y9, (fun _ => ⟨pS hsz, (fun _ => Ck.EAt.one (t := (rv.D.asl 5 t1)) hnew (Ck.Ly.later (Ck.Ly.later (Ck.Ly.weak LL.out (fun b hl hq => ⟨hq, zne_of HZ.out hZZ3 hl hq⟩)) hbw) hba))⟩), (kF y11 (fun q => ⟨pn q.1, (kU q.2 (fun q => (Ck.EAt.below q hba)))⟩)), K1 y12, K1 y13, K1 y14, ⟨(by omega), hZZ3⟩, hbw.alloc hbw.size _⟩
      · obtain rfl := SI ho
        have v5 := hpv hp 5 (by simp)
        have ww5 := (y5 v5)
        have v10 := hpv hp 10 (by simp)
        have ww10 := (y10 v10).1
        refine C_ ho 35 (ckwith_any (fun b => Ck.Cut Q w.heap.size (w.heap.size + 3) b ∧ b ≠ Z3) l [(h.name, (rv.D.asl 5 t1))] A n c X 1 1 w' (Ck.EAt.below (Ck.EAt.weak HE.out (fun b hl hq => ⟨hq, zne_of HZ.out hZZ3 hl hq⟩)) hbw) (((y10 v10).2) hi) (by decide) hn20) fun e u hg => ?_
        · obtain ⟨Gw', kw', rfl, he, hb⟩ := hg
          refine ⟨.slice Gw' (n + 1) kw', rfl, ?_⟩
          have hbs := hbw.size
          have hzz := HZ.out
          have hbs2 := hb.size
          exact ⟨pd hdf, ps hsz, KX hx, Z3, X, Gw', kw', Gb, mb, cb, t2, K1 y0, K1 y1, K1 y2, K1 y3, K1 y4, K1 y5, K1 y6, K1 y7, K1 y8, K1 y9, (kF y10 (fun q => ⟨pn q.1, (fun qu => (set_self_false qu).elim)⟩)), (fun _ => ⟨pS hsz, (fun _ => he)⟩), KN y12, K1 y13, K1 y14, ⟨(by omega), hZZ3⟩, hbw.trans (hb.mono hbw.size)⟩
      · obtain rfl := SI ho
        have v0 := hpv hp 0 (by simp)
        have ww0 := (y0 v0)
        have v4 := hpv hp 4 (by simp)
        have ww4 := (y4 v4)
        have v11 := hpv hp 11 (by simp)
        have ww11 := (y11 v11).1
        refine M_ ho 36 (T2 (fun b => Ck.Cut Q w.heap.size (w.heap.size + 3) b ∧ b ≠ Z3) (l ++ [(h.name, rv.D.asl 5 t1)]) Gw (n + 1) kw w' (HWB.out.trans (hbw.mono HWB.out.size)) (fun b hb => ⟨HQM.out b hb, zne_of2 HWB.out HQM.out HZ.out hZZ3 hb⟩) (HS.out.below hbw) (((y11 v11).2) hi) (by rw [List.length_append]; exact hb2)) fun e u hg => ?_
        · rcases Ck.Post.split hg with ⟨E, pp, x, hr2, hg⟩ | ⟨t2', hr2, hg⟩
          · have HP : Ck.Post Q w R e u := by rw [HR.out, P1.out]; show Ck.Post Q w (if rv.D.asO 5 t1 = true then _ else _) e u; rw [if_pos P2.out, hr2]; exact Ck.Gave.from hg (hfrom.out w' hbw)
            obtain ⟨g, rfl, hg2⟩ := hg
            exact .inr ⟨_, rfl, hdf, HP⟩
          · obtain ⟨Gb', mb', cb', rfl, hl, hb⟩ := hg
            refine .inl ?_
            refine ⟨.agg #[.int .i8 t2'.1, .slice Gb' mb' cb'], rfl, ?_⟩
            have hbs := hbw.size
            have hzz := HZ.out
            have hbs2 := hb.size
            exact ⟨pd hdf, ps hsz, KX hx, Z3, X, Gw, kw, Gb', mb', cb', t2', K1 y0, K1 y1, K1 y2, K1 y3, K1 y4, K1 y5, K1 y6, K1 y7, K1 y8, K1 y9, (kF y10 (fun q => ⟨pn q.1, (kU q.2 (fun q => (Ck.EAt.below q hb)))⟩)), (kF y11 (fun q => ⟨pn q.1, (fun qu => (set_self_false qu).elim)⟩)), (fun _ => ⟨pS hsz, (set_keep v11), hr2, Ck.Ly.weak hl (fun b _ hq => cutz_in (by omega) (by omega) hq)⟩), K1 y13, KN y14, ⟨(by omega), hZZ3⟩, hbw.trans (hb.mono hbw.size)⟩
      · obtain rfl := SI ho
        refine wpOp_at ho rfl (wp_value2 9 rfl (v := .pointer (some ⟨w'.heap.size, 0, none⟩)) (w2 := w'.alloc (.cells #[.int .i8 0, .slice none 0 0] 25)) ?_ ?_)
        · exact EV
        · have hbs := hbw.size
          have hzz := HZ.out
          have hsa : (w'.alloc (.cells #[.int .i8 0, .slice none 0 0] 25)).heap.size = w'.heap.size + 1 := by simp
          have hba : Below w'.heap.size w' (w'.alloc (.cells #[.int .i8 0, .slice none 0 0] 25)) := (Below.refl _ _).alloc (Nat.le_refl _) _
          have hnew := heap_new w' (.cells #[.int .i8 0, .slice none 0 0] 25)
          exact ⟨pd hdf, ps hsz, KX hx, w'.heap.size, X, Gw, kw, Gb, mb, cb, t2, K1 y0, K1 y1, K1 y2, K1 y3, K1 y4, K1 y5, K1 y6, K1 y7, K1 y8, K1 y9, (kF y10 (fun q => ⟨pn q.1, (kU q.2 (fun q => (Ck.EAt.below (Ck.EAt.weak q (fun b hl hq => ⟨hq.1, Nat.ne_of_lt hl⟩)) hba)))⟩)), (kF y11 (fun q => ⟨pn q.1, (kU q.2 (fun q => (Ck.EAt.below (Ck.EAt.weak q (fun b hl hq => ⟨hq.1, Nat.ne_of_lt hl⟩)) hba)))⟩)), (kF y12 (fun q => ⟨pn q.1, set_keep q.2.1, q.2.2.1, (Ck.Ly.later (Ck.Ly.weak q.2.2.2 (fun b hl hq => ⟨hq.1, Nat.ne_of_lt hl⟩)) hba)⟩)), (fun _ => ⟨pS hsz, hbs, ⟨_, _, hnew⟩⟩), KN y14, ⟨(by omega), .inr hbs⟩, hbw.alloc hbw.size _⟩
      · obtain rfl := SI ho
        have v13 := hpv hp 13 (by simp)
        have ww13 := (y13 v13).1
        have v12 := hpv hp 12 (by simp)
        have ww12 := (y12 v12).1
        have hlo := ((y13 v13).2.1)
        obtain ⟨u0, u1, hbox⟩ := ((y13 v13).2.2)
        obtain ⟨bc0, bc1, bf0, bf1, -⟩ := own2 hbox
        refine wpOp_at ho rfl (wp_store rfl (w2 := (w'.setCell ⟨Z3, 0, none⟩ (.int .i8 t2.1)).setCell ⟨Z3, 1, none⟩ (.slice Gb mb cb)) ?_ ?_)
        · exact EV
        · have hsa : ((w'.setCell ⟨Z3, 0, none⟩ (.int .i8 t2.1)).setCell ⟨Z3, 1, none⟩ (.slice Gb mb cb)).heap.size = w'.heap.size := by simp
          have hbs := hbw.size
          have hzz := HZ.out
          exact ⟨hdf, hsz, hx, Z3, X, Gw, kw, Gb, mb, cb, t2, K1 y0, K1 y1, K1 y2, K1 y3, K1 y4, K1 y5, K1 y6, K1 y7, K1 y8, K1 y9, (kF y10 (fun q => ⟨q.1, (kT ((y12 v12).2.1))⟩)), (kF y11 (fun q => ⟨q.1, (kT v12)⟩)), K1 y12, (kF y13 (fun q => ⟨q.1, q.2.1, (eh_set q.2.2)⟩)), (fun _ => ⟨(set_keep v12), (set_keep v13), set_two hbox _ _⟩), ⟨(by omega), hZZ3⟩, below_set2 hbw hlo _ _⟩
    · rintro listed u w' t ht hu ⟨-, -, -, Z3, X, Gw, kw, Gb, mb, cb, t2, y0, y1, y2, y3, y4, y5, y6, y7, y8, y9, y10, y11, y12, y13, y14, ⟨sZ3, hZZ3⟩, hbw⟩ hall
      have v12 := hall 12 (by decide)
      have v13 := hall 13 (by decide)
      have v14 := hall 14 (by decide)
      have P3 := Lib.hid ((y12 v12).2.2.1)
      have LB := Lib.hid (Ck.Ly.weak ((y12 v12).2.2.2) (Q' := Ck.Cut Q w.heap.size (w.heap.size + 3)) (fun b _ hq => hq.1))
      have eb9 := ((y13 v13).1)
      have HBX9 := Lib.hid ((y14 v14).2.2)
      rw [hu 9 (by decide) (by decide)] at eb9
      clear y0 y1 y2 y3 y4 y5 y6 y7 y8 y9 y10 y11 y12 y13 y14 v12 v13 v14 hall hu
      simp only [over, List.setIfInBounds_toArray, List.set_cons_succ, List.set_cons_zero, eb9] at ht
      subst ht
      clear eb9
      have HBW := Lib.hid hbw
      have HZ' := Lib.hid (Nat.le_trans (show w.heap.size + 3 ≤ _ from by have := HZ.out; omega) HBW.out.size)
      clear HZ
      have HZ := HZ'
      clear HZ'
      clear hbw
      generalize hw : w' = w5 at *
      clear hw
      have HK := Lib.hid (fun (W : World) (hb : Below w5.heap.size w5 W) => HK.out W (HBW.out.trans (hb.mono HBW.out.size)))
      have HK1 := Lib.hid (fun (W : World) (hb : Below w5.heap.size w5 W) => HK1.out W (HBW.out.trans (hb.mono HBW.out.size)))
      have HK3 := Lib.hid (fun (W : World) (hb : Below w5.heap.size w5 W) => HK3.out W (HBW.out.trans (hb.mono HBW.out.size)))
      have hfrom := Lib.hid (fun (W : World) (hb : Below w5.heap.size w5 W) => hfrom.out W (HBW.out.trans (hb.mono HBW.out.size)))
      have HE := Lib.hid (HE.out.below HBW.out)
      have HT := Lib.hid (HT.out.later HBW.out)
      have HU := Lib.hid (HU.out.later HBW.out)
      have HS := Lib.hid (HS.out.below HBW.out)
      have HWB := Lib.hid (HWB.out.trans (HBW.out.mono HWB.out.size))
      have H2 := Lib.hid (heap_below HBW.out (heap_lt H2.out) H2.out)
      have LR := Lib.hid (LR.out.later HBW.out)
      have HBX8 := Lib.hid (heap_below HBW.out (heap_lt HBX8.out) HBX8.out)
      obtain ⟨r0, r1, r2, r3, r4, q0', q1', q2', q3', q4', q5', q6', q7', q8', q9', q10'⟩ := HK.out w5 (Below.refl _ _)
      go_upto_region 3 with fail
      clear r0 r1 r2 r3 r4 q0' q1' q2' q3' q4' q5' q6' q7' q8' q9' q10'
      refine region_inv_end2 55 rfl [37, 38, 39, 40, 41, 42, 43, 44, 45, 46, 47, 48, 49, 10] (by kernel_rfl) (by kernel_rfl) (by kernel_rfl) (fun listed a' w' => a'.defers = [] ∧ a'.tmps.size = 55 ∧ (a'.eval (.tmp 2) = .slice A n c ∧ a'.eval (.tmp 3) = .pointer (some ⟨w.heap.size, 0, none⟩) ∧ a'.eval (.tmp 4) = .pointer (some ⟨w.heap.size + 1, 0, none⟩) ∧ a'.eval (.tmp 6) = .pointer (some ⟨w.heap.size + 1 + 1, 0, none⟩) ∧ a'.eval (.tmp 7) = .pointer (some ⟨Z1, 0, none⟩) ∧ a'.eval (.tmp 8) = .pointer (some ⟨Z2, 0, none⟩) ∧ a'.eval (.tmp 9) = .pointer (some ⟨Z3, 0, none⟩)) ∧ ∃ Z4 X Gw kw Gc mc cc t3, (listed[0]? = some true → (a'.eval (.tmp 37) = .agg #[.func (Fn.func rv.fr) #[] rv.cpt, .func (Fn.func rv.fa) #[] #[], .func (Fn.func rv.fm) #[] #[], .func (Fn.func rv.ft) #[] #[], rv.vg])) ∧ (listed[1]? = some true → (a'.eval (.tmp 38) = .pointer (some ⟨w.heap.size + 1, 10, none⟩))) ∧ (listed[2]? = some true → (a'.eval (.tmp 39) = .slice (some ⟨kb, ko, none⟩) 3 kc)) ∧ (listed[3]? = some true → (a'.eval (.tmp 40) = .pointer (some ⟨kb, ko + 22, none⟩))) ∧ (listed[4]? = some true → (a'.eval (.tmp 41) = .agg #[.int .i8 h3.kind, .string h3.name, .string h3.arg, .int .i64 h3.num, .int .i8 h3.tk, .slice q3.TA q3.tn q3.tc, .int .i8 h3.uk, .slice q3.UA q3.un q3.uc, .int .i64 h3.label, .int .i64 h3.pos, .slice q3.A q3.n q3.c])) ∧ (listed[5]? = some true → (a'.eval (.tmp 42) = .slice A n c)) ∧ (listed[6]? = some true → (a'.eval (.tmp 43) = .pointer (some ⟨w.heap.size + 1, 2, none⟩))) ∧ (listed[7]? = some true → (a'.eval (.tmp 44) = .string h.arg)) ∧ (listed[8]? = some true → (a'.eval (.tmp 45) = .agg #[.int .i8 (rv.D.asr 5 t1).1, .slice Gr mr cr])) ∧ (listed[9]? = some true → (a'.eval (.tmp 46) = .agg #[.string h.arg, .int .i8 (rv.D.asr 5 t1).1, .slice Gr mr cr])) ∧ (listed[10]? = some true → (a'.eval (.tmp 47) = .slice (some ⟨X, 0, none⟩) 1 1) ∧ ((listed[11]? = some false → Ck.EAt ((fun b => Ck.Cut Q w.heap.size (w.heap.size + 3) b ∧ b ≠ Z4)) w' [(h.arg, (rv.D.asr 5 t1))] (some ⟨X, 0, none⟩) 1 1))) ∧ (listed[11]? = some true → (a'.eval (.tmp 48) = .slice Gw (n + 1) kw) ∧ ((listed[12]? = some false → Ck.EAt ((fun b => Ck.Cut Q w.heap.size (w.heap.size + 3) b ∧ b ≠ Z4)) w' (l ++ [(h.arg, (rv.D.asr 5 t1))]) Gw (n + 1) kw))) ∧ (listed[12]? = some true → (a'.eval (.tmp 49) = .agg #[.int .i8 t3.1, .slice Gc mc cc]) ∧ (listed[11]? = some true) ∧ (Cg.ty rv.D K h3 k3 (l ++ [(h.arg, rv.D.asr 5 t1)]) = .ok t3) ∧ (Ck.Ly (fun b => Ck.Cut Q w.heap.size (w.heap.size + 3) b ∧ b ≠ Z4) w' t3 Gc mc cc)) ∧ (listed[13]? = some true → (a'.eval (.tmp 10) = .pointer (some ⟨Z4, 0, none⟩)) ∧ (w5.heap.size ≤ Z4) ∧ (∃ u0 u1, w'.heap[Z4]? = some (.cells #[u0, u1] 25 (0, 0)))) ∧ (listed[14]? = some true → (listed[12]? = some true) ∧ (listed[13]? = some true) ∧ (w'.heap[Z4]? = some (.cells #[.int .i8 t3.1, .slice Gc mc cc] 25 (0, 0)))) ∧ (Z4 < w'.heap.size ∧ (Z4 = w.heap.size + 2 ∨ w5.heap.size ≤ Z4)) ∧ Below w5.heap.size w5 w') (fun _ _ _ h => h.1) ?_ ?_ ?_
      · have hz := HZ.out
        refine ⟨rfl, rfl, ⟨rfl, rfl, rfl, rfl, rfl, rfl, rfl⟩, (w.heap.size + 2), 0, none, 0, none, 0, 0, (0, .nil), FH, FH, FH, FH, FH, FH, FH, FH, FH, FH, FH, FH, FH, FH, FH, ⟨(Nat.lt_of_lt_of_le (by omega) (show Below w5.heap.size w5 w5.drew from (Below.refl _ _).drew).size), .inl rfl⟩, (Below.refl _ _).drew⟩
      · rintro listed a' w' i o ⟨hdf, hsz, hx, Z4, X, Gw, kw, Gc, mc, cc, t3, y0, y1, y2, y3, y4, y5, y6, y7, y8, y9, y10, y11, y12, y13, y14, ⟨sZ4, hZZ4⟩, hbw⟩ hz hsz0 ho hi hp
        have hi13 : i < 15 := by
          rcases Nat.lt_or_ge i 15 with q | q
          · exact q
          · rw [Array.getElem?_eq_none (by simpa using q)] at ho; cases ho
        rcases (by omega : i = 0 ∨ i = 1 ∨ i = 2 ∨ i = 3 ∨ i = 4 ∨ i = 5 ∨ i = 6 ∨ i = 7 ∨ i = 8 ∨ i = 9 ∨ i = 10 ∨ i = 11 ∨ i = 12 ∨ i = 13 ∨ i = 14) with rfl | rfl | rfl | rfl | rfl | rfl | rfl | rfl | rfl | rfl | rfl | rfl | rfl | rfl | rfl
        · obtain rfl := SI ho
          obtain ⟨c0, c1, c2, c3, c4, c5, c6, c7, c8, c9, c10, c11, c12, c13, c14, c15⟩ := HK.out w' hbw
          exact V_ ho 37 ⟨pd hdf, ps hsz, KX hx, Z4, X, Gw, kw, Gc, mc, cc, t3, (fun _ => pS hsz), K1 y1, K1 y2, K1 y3, K1 y4, K1 y5, K1 y6, K1 y7, K1 y8, K1 y9, (kF y10 (fun q => ⟨pn q.1, (kU q.2 (fun q => q))⟩)), (kF y11 (fun q => ⟨pn q.1, (kU q.2 (fun q => q))⟩)), K1 y12, K1 y13, K1 y14, ⟨sZ4, hZZ4⟩, hbw⟩
        · obtain rfl := SI ho
          exact V_ ho 38 ⟨pd hdf, ps hsz, KX hx, Z4, X, Gw, kw, Gc, mc, cc, t3, K1 y0, (fun _ => pS hsz), K1 y2, K1 y3, K1 y4, K1 y5, K1 y6, K1 y7, K1 y8, K1 y9, (kF y10 (fun q => ⟨pn q.1, (kU q.2 (fun q => q))⟩)), (kF y11 (fun q => ⟨pn q.1, (kU q.2 (fun q => q))⟩)), K1 y12, K1 y13, K1 y14, ⟨sZ4, hZZ4⟩, hbw⟩
        · obtain rfl := SI ho
          have v1 := hpv hp 1 (by simp)
          have ww1 := (y1 v1)
          obtain ⟨c0, c1, c2, c3, c4, c5, c6, c7, c8, c9, c10, c11, c12, c13, c14, c15⟩ := HK.out w' hbw
          exact V_ ho 39 ⟨pd hdf, ps hsz, KX hx, Z4, X, Gw, kw, Gc, mc, cc, t3, K1 y0, K1 y1, (fun _ => pS hsz), K1 y3, K1 y4, K1 y5, K1 y6, K1 y7, K1 y8, K1 y9, (kF y10 (fun q => ⟨pn q.1, (kU q.2 (fun q => q))⟩)), (kF y11 (fun q => ⟨pn q.1, (kU q.2 (fun q => q))⟩)), K1 y12, K1 y13, K1 y14, ⟨sZ4, hZZ4⟩, hbw⟩
        · obtain rfl := SI ho
          have v2 := hpv hp 2 (by simp)
          have ww2 := (y2 v2)
          exact V_ ho 40 ⟨pd hdf, ps hsz, KX hx, Z4, X, Gw, kw, Gc, mc, cc, t3, K1 y0, K1 y1, K1 y2, (fun _ => pS hsz), K1 y4, K1 y5, K1 y6, K1 y7, K1 y8, K1 y9, (kF y10 (fun q => ⟨pn q.1, (kU q.2 (fun q => q))⟩)), (kF y11 (fun q => ⟨pn q.1, (kU q.2 (fun q => q))⟩)), K1 y12, K1 y13, K1 y14, ⟨sZ4, hZZ4⟩, hbw⟩
        · obtain rfl := SI ho
          have v3 := hpv hp 3 (by simp)
          have ww3 := (y3 v3)
          obtain ⟨d3_0, d3_1, d3_2, d3_3, d3_4, d3_5, d3_6, d3_7, d3_8, d3_9, d3_10⟩ := HK3.out w' hbw
          exact V_ ho 41 ⟨pd hdf, ps hsz, KX hx, Z4, X, Gw, kw, Gc, mc, cc, t3, K1 y0, K1 y1, K1 y2, K1 y3, (fun _ => pS hsz), K1 y5, K1 y6, K1 y7, K1 y8, K1 y9, (kF y10 (fun q => ⟨pn q.1, (kU q.2 (fun q => q))⟩)), (kF y11 (fun q => ⟨pn q.1, (kU q.2 (fun q => q))⟩)), K1 y12, K1 y13, K1 y14, ⟨sZ4, hZZ4⟩, hbw⟩
        · obtain rfl := SI ho
          exact V_ ho 42 ⟨pd hdf, ps hsz, KX hx, Z4, X, Gw, kw, Gc, mc, cc, t3, K1 y0, K1 y1, K1 y2, K1 y3, K1 y4, (fun _ => pS hsz), K1 y6, K1 y7, K1 y8, K1 y9, (kF y10 (fun q => ⟨pn q.1, (kU q.2 (fun q => q))⟩)), (kF y11 (fun q => ⟨pn q.1, (kU q.2 (fun q => q))⟩)), K1 y12, K1 y13, K1 y14, ⟨sZ4, hZZ4⟩, hbw⟩
        · obtain rfl := SI ho
          exact V_ ho 43 ⟨pd hdf, ps hsz, KX hx, Z4, X, Gw, kw, Gc, mc, cc, t3, K1 y0, K1 y1, K1 y2, K1 y3, K1 y4, K1 y5, (fun _ => pS hsz), K1 y7, K1 y8, K1 y9, (kF y10 (fun q => ⟨pn q.1, (kU q.2 (fun q => q))⟩)), (kF y11 (fun q => ⟨pn q.1, (kU q.2 (fun q => q))⟩)), K1 y12, K1 y13, K1 y14, ⟨sZ4, hZZ4⟩, hbw⟩
        · obtain rfl := SI ho
          have v6 := hpv hp 6 (by simp)
          have ww6 := (y6 v6)
          obtain ⟨c0, c1, c2, c3, c4, c5, c6, c7, c8, c9, c10, c11, c12, c13, c14, c15⟩ := HK.out w' hbw
          exact V_ ho 44 ⟨pd hdf, ps hsz, KX hx, Z4, X, Gw, kw, Gc, mc, cc, t3, K1 y0, K1 y1, K1 y2, K1 y3, K1 y4, K1 y5, K1 y6, (fun _ => pS hsz), K1 y8, K1 y9, (kF y10 (fun q => ⟨pn q.1, (kU q.2 (fun q => q))⟩)), (kF y11 (fun q => ⟨pn q.1, (kU q.2 (fun q => q))⟩)), K1 y12, K1 y13, K1 y14, ⟨sZ4, hZZ4⟩, hbw⟩
        · obtain rfl := SI ho
          obtain ⟨e0, e1, -, -, -⟩ := own2 (heap_below hbw (heap_lt HBX8.out) HBX8.out)
          exact V_ ho 45 ⟨pd hdf, ps hsz, KX hx, Z4, X, Gw, kw, Gc, mc, cc, t3, K1 y0, K1 y1, K1 y2, K1 y3, K1 y4, K1 y5, K1 y6, K1 y7, (fun _ => pS hsz), K1 y9, (kF y10 (fun q => ⟨pn q.1, (kU q.2 (fun q => q))⟩)), (kF y11 (fun q => ⟨pn q.1, (kU q.2 (fun q => q))⟩)), K1 y12, K1 y13, K1 y14, ⟨sZ4, hZZ4⟩, hbw⟩
        · obtain rfl := SI ho
          have v7 := hpv hp 7 (by simp)
          have ww7 := (y7 v7)
          have v8 := hpv hp 8 (by simp)
          have ww8 := (y8 v8)
          refine C_ ho 46 (ckbind_any h.arg ((rv.D.asr 5 t1).1) Gr mr cr w') fun e u hg => ?_
          · obtain ⟨he, hb⟩ := hg
            refine ⟨.agg #[.string h.arg, .int .i8 (rv.D.asr 5 t1).1, .slice Gr mr cr], he, ?_⟩
            have hbs := hbw.size
            have hzz := HZ.out
            have hbs2 := hb.size
            exact ⟨pd hdf, ps hsz, KX hx, Z4, X, Gw, kw, Gc, mc, cc, t3, K1 y0, K1 y1, K1 y2, K1 y3, K1 y4, K1 y5, K1 y6, K1 y7, K1 y8, (fun _ => pS hsz), (kF y10 (fun q => ⟨pn q.1, (kU q.2 (fun q => (Ck.EAt.below q hb)))⟩)), (kF y11 (fun q => ⟨pn q.1, (kU q.2 (fun q => (Ck.EAt.below q hb)))⟩)), K1 y12, K1 y13, K1 y14, ⟨(by omega), hZZ4⟩, hbw.trans (hb.mono hbw.size)⟩
        · obtain rfl := SI ho
          refine wpOp_at ho rfl (wp_value2 47 rfl (v := .slice (some ⟨w'.heap.size, 0, none⟩) 1 1) (w2 := w'.alloc (.cells #[.string h.arg, .int .i8 (rv.D.asr 5 t1).1, .slice Gr mr cr] 133)) ?_ ?_)
          · have v9 := hpv hp 9 (by simp)
            have ww9 := (y9 v9)
            exact EV
          · have v9 := hpv hp 9 (by simp)
            have hbs := hbw.size
            have hzz := HZ.out
            have hsa : (w'.alloc (.cells #[.string h.arg, .int .i8 (rv.D.asr 5 t1).1, .slice Gr mr cr] 133)).heap.size = w'.heap.size + 1 := by simp
            have hba : Below w'.heap.size w' (w'.alloc (.cells #[.string h.arg, .int .i8 (rv.D.asr 5 t1).1, .slice Gr mr cr] 133)) := (Below.refl _ _).alloc (Nat.le_refl _) _
            have hnew := heap_new w' (.cells #[.string h.arg, .int .i8 (rv.D.asr 5 t1).1, .slice Gr mr cr] 133)
            exact ⟨pd hdf, ps hsz, KX hx, Z4, w'.heap.size, Gw, kw, Gc, mc, cc, t3, K1 y0, K1 y1, K1 y2, K1 y3, K1 y4, K1 y5, K1 y6, K1 y7, K1 y8, K1 y9, (fun _ => ⟨pS hsz, (fun _ => Ck.EAt.one (t := (rv.D.asr 5 t1)) hnew (Ck.Ly.later (Ck.Ly.later (Ck.Ly.weak LR.out (fun b hl hq => ⟨hq, zne_of HZ.out hZZ4 hl hq⟩)) hbw) hba))⟩), (kF y11 (fun q => ⟨pn q.1, (kU q.2 (fun q => (Ck.EAt.below q hba)))⟩)), K1 y12, K1 y13, K1 y14, ⟨(by omega), hZZ4⟩, hbw.alloc hbw.size _⟩
        · obtain rfl := SI ho
          have v5 := hpv hp 5 (by simp)
          have ww5 := (y5 v5)
          have v10 := hpv hp 10 (by simp)
          have ww10 := (y10 v10).1
          refine C_ ho 48 (ckwith_any (fun b => Ck.Cut Q w.heap.size (w.heap.size + 3) b ∧ b ≠ Z4) l [(h.arg, (rv.D.asr 5 t1))] A n c X 1 1 w' (Ck.EAt.below (Ck.EAt.weak HE.out (fun b hl hq => ⟨hq, zne_of HZ.out hZZ4 hl hq⟩)) hbw) (((y10 v10).2) hi) (by decide) hn20) fun e u hg => ?_
          · obtain ⟨Gw', kw', rfl, he, hb⟩ := hg
            refine ⟨.slice Gw' (n + 1) kw', rfl, ?_⟩
            have hbs := hbw.size
            have hzz := HZ.out
            have hbs2 := hb.size
            exact ⟨pd hdf, ps hsz, KX hx, Z4, X, Gw', kw', Gc, mc, cc, t3, K1 y0, K1 y1, K1 y2, K1 y3, K1 y4, K1 y5, K1 y6, K1 y7, K1 y8, K1 y9, (kF y10 (fun q => ⟨pn q.1, (fun qu => (set_self_false qu).elim)⟩)), (fun _ => ⟨pS hsz, (fun _ => he)⟩), KN y12, K1 y13, K1 y14, ⟨(by omega), hZZ4⟩, hbw.trans (hb.mono hbw.size)⟩
        · obtain rfl := SI ho
          have v0 := hpv hp 0 (by simp)
          have ww0 := (y0 v0)
          have v4 := hpv hp 4 (by simp)
          have ww4 := (y4 v4)
          have v11 := hpv hp 11 (by simp)
          have ww11 := (y11 v11).1
          refine M_ ho 49 (T3 (fun b => Ck.Cut Q w.heap.size (w.heap.size + 3) b ∧ b ≠ Z4) (l ++ [(h.arg, rv.D.asr 5 t1)]) Gw (n + 1) kw w' (HWB.out.trans (hbw.mono HWB.out.size)) (fun b hb => ⟨HQM.out b hb, zne_of2 HWB.out HQM.out HZ.out hZZ4 hb⟩) (HS.out.below hbw) (((y11 v11).2) hi) (by rw [List.length_append]; exact hb3)) fun e u hg => ?_
          · rcases Ck.Post.split hg with ⟨E, pp, x, hr3, hg⟩ | ⟨t3', hr3, hg⟩
            · have HP : Ck.Post Q w R e u := by rw [HR.out, P1.out]; show Ck.Post Q w (if rv.D.asO 5 t1 = true then _ else _) e u; rw [if_pos P2.out, P3.out]; show Ck.Post Q w (Ck.bnd (Cg.ty rv.D K h3 k3 _) _) e u; rw [hr3]; exact Ck.Gave.from hg (hfrom.out w' hbw)
              obtain ⟨g, rfl, hg2⟩ := hg
              exact .inr ⟨_, rfl, hdf, HP⟩
            · obtain ⟨Gc', mc', cc', rfl, hl, hb⟩ := hg
              refine .inl ?_
              refine ⟨.agg #[.int .i8 t3'.1, .slice Gc' mc' cc'], rfl, ?_⟩
              have hbs := hbw.size
              have hzz := HZ.out
              have hbs2 := hb.size
              exact ⟨pd hdf, ps hsz, KX hx, Z4, X, Gw, kw, Gc', mc', cc', t3', K1 y0, K1 y1, K1 y2, K1 y3, K1 y4, K1 y5, K1 y6, K1 y7, K1 y8, K1 y9, (kF y10 (fun q => ⟨pn q.1, (kU q.2 (fun q => (Ck.EAt.below q hb)))⟩)), (kF y11 (fun q => ⟨pn q.1, (fun qu => (set_self_false qu).elim)⟩)), (fun _ => ⟨pS hsz, (set_keep v11), hr3, Ck.Ly.weak hl (fun b _ hq => cutz_in (by omega) (by omega) hq)⟩), K1 y13, KN y14, ⟨(by omega), hZZ4⟩, hbw.trans (hb.mono hbw.size)⟩
        · obtain rfl := SI ho
          refine wpOp_at ho rfl (wp_value2 10 rfl (v := .pointer (some ⟨w'.heap.size, 0, none⟩)) (w2 := w'.alloc (.cells #[.int .i8 0, .slice none 0 0] 25)) ?_ ?_)
          · exact EV
          · have hbs := hbw.size
            have hzz := HZ.out
            have hsa : (w'.alloc (.cells #[.int .i8 0, .slice none 0 0] 25)).heap.size = w'.heap.size + 1 := by simp
            have hba : Below w'.heap.size w' (w'.alloc (.cells #[.int .i8 0, .slice none 0 0] 25)) := (Below.refl _ _).alloc (Nat.le_refl _) _
            have hnew := heap_new w' (.cells #[.int .i8 0, .slice none 0 0] 25)
            exact ⟨pd hdf, ps hsz, KX hx, w'.heap.size, X, Gw, kw, Gc, mc, cc, t3, K1 y0, K1 y1, K1 y2, K1 y3, K1 y4, K1 y5, K1 y6, K1 y7, K1 y8, K1 y9, (kF y10 (fun q => ⟨pn q.1, (kU q.2 (fun q => (Ck.EAt.below (Ck.EAt.weak q (fun b hl hq => ⟨hq.1, Nat.ne_of_lt hl⟩)) hba)))⟩)), (kF y11 (fun q => ⟨pn q.1, (kU q.2 (fun q => (Ck.EAt.below (Ck.EAt.weak q (fun b hl hq => ⟨hq.1, Nat.ne_of_lt hl⟩)) hba)))⟩)), (kF y12 (fun q => ⟨pn q.1, set_keep q.2.1, q.2.2.1, (Ck.Ly.later (Ck.Ly.weak q.2.2.2 (fun b hl hq => ⟨hq.1, Nat.ne_of_lt hl⟩)) hba)⟩)), (fun _ => ⟨pS hsz, hbs, ⟨_, _, hnew⟩⟩), KN y14, ⟨(by omega), .inr hbs⟩, hbw.alloc hbw.size _⟩
        · obtain rfl := SI ho
          have v13 := hpv hp 13 (by simp)
          have ww13 := (y13 v13).1
          have v12 := hpv hp 12 (by simp)
          have ww12 := (y12 v12).1
          have hlo := ((y13 v13).2.1)
          obtain ⟨u0, u1, hbox⟩ := ((y13 v13).2.2)
          obtain ⟨bc0, bc1, bf0, bf1, -⟩ := own2 hbox
          refine wpOp_at ho rfl (wp_store rfl (w2 := (w'.setCell ⟨Z4, 0, none⟩ (.int .i8 t3.1)).setCell ⟨Z4, 1, none⟩ (.slice Gc mc cc)) ?_ ?_)
          · exact EV
          · have hsa : ((w'.setCell ⟨Z4, 0, none⟩ (.int .i8 t3.1)).setCell ⟨Z4, 1, none⟩ (.slice Gc mc cc)).heap.size = w'.heap.size := by simp
            have hbs := hbw.size
            have hzz := HZ.out
            exact ⟨hdf, hsz, hx, Z4, X, Gw, kw, Gc, mc, cc, t3, K1 y0, K1 y1, K1 y2, K1 y3, K1 y4, K1 y5, K1 y6, K1 y7, K1 y8, K1 y9, (kF y10 (fun q => ⟨q.1, (kT ((y12 v12).2.1))⟩)), (kF y11 (fun q => ⟨q.1, (kT v12)⟩)), K1 y12, (kF y13 (fun q => ⟨q.1, q.2.1, (eh_set q.2.2)⟩)), (fun _ => ⟨(set_keep v12), (set_keep v13), set_two hbox _ _⟩), ⟨(by omega), hZZ4⟩, below_set2 hbw hlo _ _⟩
      · rintro listed u w' t ht hu ⟨-, -, -, Z4, X, Gw, kw, Gc, mc, cc, t3, y0, y1, y2, y3, y4, y5, y6, y7, y8, y9, y10, y11, y12, y13, y14, ⟨sZ4, hZZ4⟩, hbw⟩ hall
        have v12 := hall 12 (by decide)
        have v13 := hall 13 (by decide)
        have v14 := hall 14 (by decide)
        have P4 := Lib.hid ((y12 v12).2.2.1)
        have LC := Lib.hid (Ck.Ly.weak ((y12 v12).2.2.2) (Q' := Ck.Cut Q w.heap.size (w.heap.size + 3)) (fun b _ hq => hq.1))
        have eb10 := ((y13 v13).1)
        have HBX10 := Lib.hid ((y14 v14).2.2)
        rw [hu 10 (by decide) (by decide)] at eb10
        clear y0 y1 y2 y3 y4 y5 y6 y7 y8 y9 y10 y11 y12 y13 y14 v12 v13 v14 hall hu
        simp only [over, List.setIfInBounds_toArray, List.set_cons_succ, List.set_cons_zero, eb10] at ht
        subst ht
        clear eb10
        have HBW := Lib.hid hbw
        have HZ' := Lib.hid (Nat.le_trans (show w.heap.size + 3 ≤ _ from by have := HZ.out; omega) HBW.out.size)
        clear HZ
        have HZ := HZ'
        clear HZ'
        clear hbw
        generalize hw : w' = w6 at *
        clear hw
        have HK := Lib.hid (fun (W : World) (hb : Below w6.heap.size w6 W) => HK.out W (HBW.out.trans (hb.mono HBW.out.size)))
        have HK1 := Lib.hid (fun (W : World) (hb : Below w6.heap.size w6 W) => HK1.out W (HBW.out.trans (hb.mono HBW.out.size)))
        have hfrom := Lib.hid (fun (W : World) (hb : Below w6.heap.size w6 W) => hfrom.out W (HBW.out.trans (hb.mono HBW.out.size)))
        have HE := Lib.hid (HE.out.below HBW.out)
        have HT := Lib.hid (HT.out.later HBW.out)
        have HU := Lib.hid (HU.out.later HBW.out)
        have HS := Lib.hid (HS.out.below HBW.out)
        have HWB := Lib.hid (HWB.out.trans (HBW.out.mono HWB.out.size))
        have H2 := Lib.hid (heap_below HBW.out (heap_lt H2.out) H2.out)
        have LB := Lib.hid (LB.out.later HBW.out)
        have HBX9 := Lib.hid (heap_below HBW.out (heap_lt HBX9.out) HBX9.out)
        obtain ⟨r0, r1, r2, r3, r4, q0', q1', q2', q3', q4', q5', q6', q7', q8', q9', q10'⟩ := HK.out w6 (Below.refl _ _)
        obtain ⟨s0, s1, -, -, -⟩ := own2 HBX9.out
        obtain ⟨s2, s3, -, -, -⟩ := own2 HBX10.out
        obtain ⟨x0, x1, f0, f1, xl⟩ := own2 H2.out
        have CM := Lib.hid (ckmeet_any rv (Ck.Cut Q w.heap.size (w.heap.size + 3)) h (⟨TA, tn, tc, UA, un, uc, some ⟨kb, ko, none⟩, 3, kc⟩ : Pl) t2 Gb mb cb t3 Gc mc cc w6 LB.out LC.out HS.out)
        go_wp2_with fail
        refine CM.out.mono ?_
        rintro e w7 hg
        rcases hg with ⟨hq, hg⟩ | ⟨hq, hg⟩
        · have HP : Ck.Post Q w R e w7 := by rw [HR.out, P1.out]; show Ck.Post Q w (if rv.D.asO 5 t1 = true then _ else _) e w7; rw [if_pos P2.out, P3.out]; show Ck.Post Q w (Ck.bnd (Cg.ty rv.D K h3 k3 _) _) e w7; rw [P4.out]; show Ck.Post Q w (Cg.meet rv.D h t2 t3) e w7; unfold Cg.meet; rw [if_neg (ne_of_false (show rv.D.ag t2 t3 = false from hq))]; exact Ck.Gave.from hg (hfrom.out w6 (Below.refl _ _))
          obtain ⟨g, rfl, -⟩ := hg
          go_wp2_with fail
          exact ⟨rfl, HP⟩
        · obtain ⟨G, m, cg, rfl, hl, hb⟩ := hg
          have HB7 := Lib.hid hb
          have HL7 := Lib.hid hl
          have H7 := Lib.hid (heap_below hb (heap_lt H2.out) H2.out)
          clear hb hl x0 x1 f0 f1 xl
          obtain ⟨x0, x1, f0, f1, xl⟩ := own2 H7.out
          have hz6 := HZ.out
          go_wp2_with fail
          have z3 := set_two H7.out (.int .i8 (rv.D.mt t2 t3).1) (.slice G m cg)
          obtain ⟨k0, k1', -, -, -⟩ := own2 z3
          refine ⟨rfl, .agg #[.int .i8 (rv.D.mt t2 t3).1, .slice G m cg], by simp [results, Tryz.results76, go_sem, k0, k1'], ?_⟩
          rw [HR.out, P1.out]; show Ck.Post Q w (if rv.D.asO 5 t1 = true then _ else _) _ _; rw [if_pos P2.out, P3.out]; show Ck.Post Q w (Ck.bnd (Cg.ty rv.D K h3 k3 _) _) _ _; rw [P4.out]; show Ck.Post Q w (Cg.meet rv.D h t2 t3) _ _; unfold Cg.meet; rw [if_pos (show rv.D.ag t2 t3 = true from hq)]
          exact ⟨G, m, cg, rfl, (Ck.Ly.set2 (a := rv.D.mt t2 t3) HL7.out (fun b hq => (Ck.Cut.in (by omega) hq).ne (by omega) (by omega)) _ _).weak (fun b _ hq => (Ck.Cut.in (by omega) hq).out (by omega)), below_set2 (hfrom.out _ HB7.out) (by omega) _ _⟩

end Go.Proofs.YtknhoagicdfikaaGreatDoor
