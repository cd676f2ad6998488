/-
  Layer 9: a lambda.
-/
import Derived.Test.YtknhoagicdfikaaGreatDoorM20
namespace Go.Proofs.YtknhoagicdfikaaGreatDoor
open Go.RowKit
set_option maxHeartbeats 8000000 in
set_option maxRecDepth 100000 in
theorem cklam_told (rv : Cg.Rv) (K : Nat) (Q : Nat → Prop) (h h1 : Hd) (k1 : Tm) (q1 : Pl) (TA UA : Option Addr) (tn tc un uc kb ko kc : Nat) (l : Ck.Env) (A : Option Addr) (n c : Nat) (wb w : World)
    (hT : Ty.Is wb h.tk h.tkids TA tn tc) (hU : Ty.Is wb h.uk h.ukids UA un uc) (g1 : Ck.KidAt wb kb (ko) h1 q1) (hwb : Below wb.heap.size wb w) (hQ : ∀ b, b < wb.heap.size → Q b) (hS : Shapes w) (hE : Ck.EAt Q w l A n c)
    (hk : h.kind = 4) (hb1 : l.length + 1 + 2 * (Tm.nodes k1 + 1) ≤ 20000) (T1 : Ck.TellsOf rv K wb h1 k1 q1) :
    Calls Tryz.prog 49 #[.agg #[.func (Fn.func rv.fr) #[] rv.cpt, .func (Fn.func rv.fa) #[] #[], .func (Fn.func rv.fm) #[] #[], .func (Fn.func rv.ft) #[] #[], rv.vg], .agg #[.int .i8 h.kind, .string h.name, .string h.arg, .int .i64 h.num, .int .i8 h.tk, .slice TA tn tc, .int .i8 h.uk, .slice UA un uc, .int .i64 h.label, .int .i64 h.pos, .slice (some ⟨kb, ko, none⟩) 1 kc], .slice A n c] w (Ck.Post Q w (Ck.bnd (Cg.ty rv.D K h1 k1 (l ++ [(h.name, Ck.TT h)])) fun b => .ok (Ck.mk2 3 (Ck.TT h) b))) := by
  obtain ⟨w1, hw1, hB3, H0', H1', H2', hz⟩ := boxes3 w (.cells #[.func (Fn.func rv.fr) #[] rv.cpt, .func (Fn.func rv.fa) #[] #[], .func (Fn.func rv.fm) #[] #[], .func (Fn.func rv.ft) #[] #[], rv.vg] 47) (.cells #[.int .i8 h.kind, .string h.name, .string h.arg, .int .i64 h.num, .int .i8 h.tk, .slice TA tn tc, .int .i8 h.uk, .slice UA un uc, .int .i64 h.label, .int .i64 h.pos, .slice (some ⟨kb, ko, none⟩) 1 kc] 28) (.cells #[.int .i8 0, .slice none 0 0] 25)
  have HW1 := Lib.hid hw1
  have HB3 := Lib.hid hB3
  have H0 := Lib.hid H0'
  have H1 := Lib.hid H1'
  have H2 := Lib.hid H2'
  have HZ := Lib.hid hz
  have HWB := Lib.hid (hwb.trans (hB3.mono hwb.size))
  have HS := Lib.hid (hS.below hB3)
  have hfrom := Lib.hid (fun (W : World) (hb : Below w1.heap.size w1 W) => hB3.trans (hb.mono hB3.size))
  have HQM : Hid (∀ b, b < wb.heap.size → Ck.Cut Q w.heap.size (w.heap.size + 3) b) := Lib.hid (fun b hb => .inl ⟨hQ b hb, Nat.lt_of_lt_of_le hb hwb.size⟩)
  have HE : Hid (Ck.EAt (Ck.Cut Q w.heap.size (w.heap.size + 3)) w1 l A n c) := Lib.hid ((hE.weak (fun b hb hq => .inl ⟨hq, hb⟩)).below hB3)
  have HT : Hid (Ck.Ly (Ck.Cut Q w.heap.size (w.heap.size + 3)) w1 (Ck.TT h) TA tn tc) := Lib.hid (((Ck.Ly.of (a := Ck.TT h) hT).weak (fun b hb _ => HQM.out b hb)).later HWB.out)
  have HU : Hid (Ck.Ly (Ck.Cut Q w.heap.size (w.heap.size + 3)) w1 (Ck.UU h) UA un uc) := Lib.hid (((Ck.Ly.of (a := Ck.UU h) hU).weak (fun b hb _ => HQM.out b hb)).later HWB.out)
  have hnl := hE.n_eq
  have HN := Lib.hid hnl
  have HK := Lib.hid (fun (W : World) (hb : Below w1.heap.size w1 W) => (show W.cell? ⟨w.heap.size, 0, none⟩ = some (.func (Fn.func rv.fr) #[] rv.cpt) ∧ W.cell? ⟨w.heap.size, 1, none⟩ = some (.func (Fn.func rv.fa) #[] #[]) ∧ W.cell? ⟨w.heap.size, 2, none⟩ = some (.func (Fn.func rv.fm) #[] #[]) ∧ W.cell? ⟨w.heap.size, 3, none⟩ = some (.func (Fn.func rv.ft) #[] #[]) ∧ W.cell? ⟨w.heap.size, 4, none⟩ = some rv.vg ∧ W.cell? ⟨w.heap.size + 1, 0, none⟩ = some (.int .i8 h.kind) ∧ W.cell? ⟨w.heap.size + 1, 1, none⟩ = some (.string h.name) ∧ W.cell? ⟨w.heap.size + 1, 2, none⟩ = some (.string h.arg) ∧ W.cell? ⟨w.heap.size + 1, 3, none⟩ = some (.int .i64 h.num) ∧ W.cell? ⟨w.heap.size + 1, 4, none⟩ = some (.int .i8 h.tk) ∧ W.cell? ⟨w.heap.size + 1, 5, none⟩ = some (.slice TA tn tc) ∧ W.cell? ⟨w.heap.size + 1, 6, none⟩ = some (.int .i8 h.uk) ∧ W.cell? ⟨w.heap.size + 1, 7, none⟩ = some (.slice UA un uc) ∧ W.cell? ⟨w.heap.size + 1, 8, none⟩ = some (.int .i64 h.label) ∧ W.cell? ⟨w.heap.size + 1, 9, none⟩ = some (.int .i64 h.pos) ∧ W.cell? ⟨w.heap.size + 1, 10, none⟩ = some (.slice (some ⟨kb, ko, none⟩) 1 kc) from by
    obtain ⟨r0, r1, r2, r3, r4, -⟩ := own5 (heap_below hb (heap_lt H0.out) H0.out)
    obtain ⟨q0, q1, q2, q3, q4, q5, q6, q7, q8, q9, q10, ql⟩ := own11 (heap_below hb (heap_lt H1.out) H1.out)
    exact ⟨r0, r1, r2, r3, r4, q0, q1, q2, q3, q4, q5, q6, q7, q8, q9, q10⟩))
  have HK1 := Lib.hid (fun (W : World) (hb : Below w1.heap.size w1 W) => (show W.cell? ⟨kb, ko, none⟩ = some (.int .i8 h1.kind) ∧ W.cell? ⟨kb, ko + 1, none⟩ = some (.string h1.name) ∧ W.cell? ⟨kb, ko + 2, none⟩ = some (.string h1.arg) ∧ W.cell? ⟨kb, ko + 3, none⟩ = some (.int .i64 h1.num) ∧ W.cell? ⟨kb, ko + 4, none⟩ = some (.int .i8 h1.tk) ∧ W.cell? ⟨kb, ko + 5, none⟩ = some (.slice q1.TA q1.tn q1.tc) ∧ W.cell? ⟨kb, ko + 6, none⟩ = some (.int .i8 h1.uk) ∧ W.cell? ⟨kb, ko + 7, none⟩ = some (.slice q1.UA q1.un q1.uc) ∧ W.cell? ⟨kb, ko + 8, none⟩ = some (.int .i64 h1.label) ∧ W.cell? ⟨kb, ko + 9, none⟩ = some (.int .i64 h1.pos) ∧ W.cell? ⟨kb, ko + 10, none⟩ = some (.slice q1.A q1.n q1.c) from
    ⟨keep_cell (keep_cell (g1 0 _ rfl) HWB.out) hb, keep_cell (keep_cell (g1 1 _ rfl) HWB.out) hb, keep_cell (keep_cell (g1 2 _ rfl) HWB.out) hb, keep_cell (keep_cell (g1 3 _ rfl) HWB.out) hb, keep_cell (keep_cell (g1 4 _ rfl) HWB.out) hb, keep_cell (keep_cell (g1 5 _ rfl) HWB.out) hb, keep_cell (keep_cell (g1 6 _ rfl) HWB.out) hb, keep_cell (keep_cell (g1 7 _ rfl) HWB.out) hb, keep_cell (keep_cell (g1 8 _ rfl) HWB.out) hb, keep_cell (keep_cell (g1 9 _ rfl) HWB.out) hb, keep_cell (keep_cell (g1 10 _ rfl) HWB.out) hb⟩))
  clear hB3 H0' H1' H2' hz hwb hS hE hT hU hnl g1
  obtain ⟨R, hR⟩ : ∃ R, R = (Ck.bnd (Cg.ty rv.D K h1 k1 (l ++ [(h.name, Ck.TT h)])) fun b => .ok (Ck.mk2 3 (Ck.TT h) b)) := ⟨_, rfl⟩
  rw [← hR]
  have HR := Lib.hid hR
  clear hR
  have hn20 : n + 1 ≤ 20000 := by have := HN.out; omega
  have HKK := Lib.hid hk
  clear hk
  go_enter Tryz.func49, Tryz.ntmps49
  go_upto_region 1 with fail
  rw [← HW1.out]
  clear hw1
  obtain ⟨r0, r1, r2, r3, r4, q0', q1', q2', q3', q4', q5', q6', q7', q8', q9', q10'⟩ := HK.out w1 (Below.refl _ _)
  rw [HKK.out] at q0'
  go_upto_region 10 with fail
  clear r0 r1 r2 r3 r4 q0' q1' q2' q3' q4' q5' q6' q7' q8' q9' q10'
  refine region_inv_end2 81 rfl [26, 27, 28, 29, 30, 31, 32, 33, 34, 35, 36, 37, 38, 39, 40, 41, 42, 43] (by kernel_rfl) (by kernel_rfl) (by kernel_rfl) (fun listed a' w' => a'.defers = [] ∧ a'.tmps.size = 81 ∧ (a'.eval (.tmp 2) = .slice A n c ∧ a'.eval (.tmp 3) = .pointer (some ⟨w.heap.size, 0, none⟩) ∧ a'.eval (.tmp 4) = .pointer (some ⟨w.heap.size + 1, 0, none⟩) ∧ a'.eval (.tmp 6) = .pointer (some ⟨w.heap.size + 1 + 1, 0, none⟩)) ∧ ∃ X Gw kw Gb mb cb t2 Y, (listed[0]? = some true → (a'.eval (.tmp 26) = .pointer (some ⟨w.heap.size + 1, 4, none⟩))) ∧ (listed[1]? = some true → (a'.eval (.tmp 27) = .agg #[.int .i8 h.tk, .slice TA tn tc]) ∧ (listed[0]? = some true)) ∧ (listed[2]? = some true → (a'.eval (.tmp 28) = .agg #[.func (Fn.func rv.fr) #[] rv.cpt, .func (Fn.func rv.fa) #[] #[], .func (Fn.func rv.fm) #[] #[], .func (Fn.func rv.ft) #[] #[], rv.vg])) ∧ (listed[3]? = some true → (a'.eval (.tmp 29) = .pointer (some ⟨w.heap.size + 1, 10, none⟩))) ∧ (listed[4]? = some true → (a'.eval (.tmp 30) = .slice (some ⟨kb, ko, none⟩) 1 kc) ∧ (listed[3]? = some true)) ∧ (listed[5]? = some true → (a'.eval (.tmp 31) = .pointer (some ⟨kb, ko, none⟩)) ∧ (listed[3]? = some true) ∧ (listed[4]? = some true)) ∧ (listed[6]? = some true → (a'.eval (.tmp 32) = .agg #[.int .i8 h1.kind, .string h1.name, .string h1.arg, .int .i64 h1.num, .int .i8 h1.tk, .slice q1.TA q1.tn q1.tc, .int .i8 h1.uk, .slice q1.UA q1.un q1.uc, .int .i64 h1.label, .int .i64 h1.pos, .slice q1.A q1.n q1.c]) ∧ (listed[3]? = some true) ∧ (listed[4]? = some true) ∧ (listed[5]? = some true)) ∧ (listed[7]? = some true → (a'.eval (.tmp 33) = .slice A n c)) ∧ (listed[8]? = some true → (a'.eval (.tmp 34) = .pointer (some ⟨w.heap.size + 1, 1, none⟩))) ∧ (listed[9]? = some true → (a'.eval (.tmp 35) = .string h.name) ∧ (listed[8]? = some true)) ∧ (listed[10]? = some true → (a'.eval (.tmp 36) = .pointer (some ⟨w.heap.size + 1, 4, none⟩))) ∧ (listed[11]? = some true → (a'.eval (.tmp 37) = .agg #[.int .i8 h.tk, .slice TA tn tc]) ∧ (listed[10]? = some true)) ∧ (listed[12]? = some true → (a'.eval (.tmp 38) = .agg #[.string h.name, .int .i8 h.tk, .slice TA tn tc]) ∧ (listed[8]? = some true) ∧ (listed[9]? = some true) ∧ (listed[10]? = some true) ∧ (listed[11]? = some true)) ∧ (listed[13]? = some true → (a'.eval (.tmp 39) = .slice (some ⟨X, 0, none⟩) 1 1) ∧ (listed[8]? = some true) ∧ (listed[9]? = some true) ∧ (listed[10]? = some true) ∧ (listed[11]? = some true) ∧ (listed[12]? = some true) ∧ ((listed[14]? = some false → Ck.EAt (Ck.Cut Q w.heap.size (w.heap.size + 3)) w' [(h.name, (Ck.TT h))] (some ⟨X, 0, none⟩) 1 1))) ∧ (listed[14]? = some true → (a'.eval (.tmp 40) = .slice Gw (n + 1) kw) ∧ (listed[7]? = some true) ∧ (listed[8]? = some true) ∧ (listed[9]? = some true) ∧ (listed[10]? = some true) ∧ (listed[11]? = some true) ∧ (listed[12]? = some true) ∧ (listed[13]? = some true) ∧ ((listed[15]? = some false → Ck.EAt (Ck.Cut Q w.heap.size (w.heap.size + 3)) w' (l ++ [(h.name, (Ck.TT h))]) Gw (n + 1) kw))) ∧ (listed[15]? = some true → (a'.eval (.tmp 41) = .agg #[.int .i8 t2.1, .slice Gb mb cb]) ∧ (listed[2]? = some true) ∧ (listed[3]? = some true) ∧ (listed[4]? = some true) ∧ (listed[5]? = some true) ∧ (listed[6]? = some true) ∧ (listed[7]? = some true) ∧ (listed[8]? = some true) ∧ (listed[9]? = some true) ∧ (listed[10]? = some true) ∧ (listed[11]? = some true) ∧ (listed[12]? = some true) ∧ (listed[13]? = some true) ∧ (listed[14]? = some true) ∧ (Cg.ty rv.D K h1 k1 (l ++ [(h.name, Ck.TT h)]) = .ok t2) ∧ (Ck.Ly (Ck.Cut Q w.heap.size (w.heap.size + 3)) w' t2 Gb mb cb)) ∧ (listed[16]? = some true → (a'.eval (.tmp 42) = .slice (some ⟨Y, 0, none⟩) 2 2) ∧ (listed[0]? = some true) ∧ (listed[1]? = some true) ∧ (listed[2]? = some true) ∧ (listed[3]? = some true) ∧ (listed[4]? = some true) ∧ (listed[5]? = some true) ∧ (listed[6]? = some true) ∧ (listed[7]? = some true) ∧ (listed[8]? = some true) ∧ (listed[9]? = some true) ∧ (listed[10]? = some true) ∧ (listed[11]? = some true) ∧ (listed[12]? = some true) ∧ (listed[13]? = some true) ∧ (listed[14]? = some true) ∧ (listed[15]? = some true) ∧ (Ck.Ly (Ck.Cut Q w.heap.size (w.heap.size + 3)) w' (Ck.mk2 3 (Ck.TT h) t2) (some ⟨Y, 0, none⟩) 2 2)) ∧ (listed[17]? = some true → (a'.eval (.tmp 43) = .agg #[.int .i8 3, .slice (some ⟨Y, 0, none⟩) 2 2]) ∧ (listed[0]? = some true) ∧ (listed[1]? = some true) ∧ (listed[2]? = some true) ∧ (listed[3]? = some true) ∧ (listed[4]? = some true) ∧ (listed[5]? = some true) ∧ (listed[6]? = some true) ∧ (listed[7]? = some true) ∧ (listed[8]? = some true) ∧ (listed[9]? = some true) ∧ (listed[10]? = some true) ∧ (listed[11]? = some true) ∧ (listed[12]? = some true) ∧ (listed[13]? = some true) ∧ (listed[14]? = some true) ∧ (listed[15]? = some true) ∧ (listed[16]? = some true)) ∧ (listed[18]? = some true → (listed[0]? = some true) ∧ (listed[1]? = some true) ∧ (listed[2]? = some true) ∧ (listed[3]? = some true) ∧ (listed[4]? = some true) ∧ (listed[5]? = some true) ∧ (listed[6]? = some true) ∧ (listed[7]? = some true) ∧ (listed[8]? = some true) ∧ (listed[9]? = some true) ∧ (listed[10]? = some true) ∧ (listed[11]? = some true) ∧ (listed[12]? = some true) ∧ (listed[13]? = some true) ∧ (listed[14]? = some true) ∧ (listed[15]? = some true) ∧ (listed[16]? = some true) ∧ (listed[17]? = some true) ∧ (w'.heap[w.heap.size + 1 + 1]? = some (.cells #[.int .i8 3, .slice (some ⟨Y, 0, none⟩) 2 2] 25 (0, 0))) ∧ (Below w.heap.size w w')) ∧ (listed[18]? = some false → Below w1.heap.size w1 w')) (fun _ _ _ h => h.1) ?_ ?_ ?_
  · have hz := HZ.out
    refine ⟨rfl, rfl, ⟨rfl, rfl, rfl, rfl⟩, 0, none, 0, none, 0, 0, (0, .nil), 0, FH, FH, FH, FH, FH, FH, FH, FH, FH, FH, FH, FH, FH, FH, FH, FH, FH, FH, FH, (fun _ => (Below.refl _ _).drew)⟩
  · rintro listed a' w' i o ⟨hdf, hsz, hx, X, Gw, kw, Gb, mb, cb, t2, Y, y0, y1, y2, y3, y4, y5, y6, y7, y8, y9, y10, y11, y12, y13, y14, y15, y16, y17, y18, hbw⟩ hz hsz0 ho hi hp
    have hi13 : i < 19 := by
      rcases Nat.lt_or_ge i 19 with q | q
      · exact q
      · rw [Array.getElem?_eq_none (by simpa using q)] at ho; cases ho
    rcases (by omega : i = 0 ∨ i = 1 ∨ i = 2 ∨ i = 3 ∨ i = 4 ∨ i = 5 ∨ i = 6 ∨ i = 7 ∨ i = 8 ∨ i = 9 ∨ i = 10 ∨ i = 11 ∨ i = 12 ∨ i = 13 ∨ i = 14 ∨ i = 15 ∨ i = 16 ∨ i = 17 ∨ i = 18) with rfl | rfl | rfl | rfl | rfl | rfl | rfl | rfl | rfl | rfl | rfl | rfl | rfl | rfl | rfl | rfl | rfl | rfl | rfl
    · obtain rfl := SI ho
      exact V_ ho 26 ⟨pd hdf, ps hsz, KX hx, X, Gw, kw, Gb, mb, cb, t2, Y, (fun _ => pS hsz), KN y1, K1 y2, K1 y3, K1 y4, K1 y5, K1 y6, K1 y7, K1 y8, K1 y9, K1 y10, K1 y11, K1 y12, (kF y13 (fun q => ⟨pn q.1, set_keep q.2.1, set_keep q.2.2.1, set_keep q.2.2.2.1, set_keep q.2.2.2.2.1, set_keep q.2.2.2.2.2.1, (kU q.2.2.2.2.2.2 (fun q => q))⟩)), (kF y14 (fun q => ⟨pn q.1, set_keep q.2.1, set_keep q.2.2.1, set_keep q.2.2.2.1, set_keep q.2.2.2.2.1, set_keep q.2.2.2.2.2.1, set_keep q.2.2.2.2.2.2.1, set_keep q.2.2.2.2.2.2.2.1, (kU q.2.2.2.2.2.2.2.2 (fun q => q))⟩)), K1 y15, KN y16, KN y17, KN y18, (kU hbw id)⟩
    · obtain rfl := SI ho
      have v0 := hpv hp 0 (by simp)
      have ww0 := (y0 v0)
      have hbu := hbw
      have hbw := hbw (nf (by rw [hz]; decide) (fun q => (y18 q).2.1) hi)
      obtain ⟨c0, c1, c2, c3, c4, c5, c6, c7, c8, c9, c10, c11, c12, c13, c14, c15⟩ := HK.out w' hbw
      exact V_ ho 27 ⟨pd hdf, ps hsz, KX hx, X, Gw, kw, Gb, mb, cb, t2, Y, K1 y0, (fun _ => ⟨pS hsz, (set_keep v0)⟩), K1 y2, K1 y3, K1 y4, K1 y5, K1 y6, K1 y7, K1 y8, K1 y9, K1 y10, K1 y11, K1 y12, (kF y13 (fun q => ⟨pn q.1, set_keep q.2.1, set_keep q.2.2.1, set_keep q.2.2.2.1, set_keep q.2.2.2.2.1, set_keep q.2.2.2.2.2.1, (kU q.2.2.2.2.2.2 (fun q => q))⟩)), (kF y14 (fun q => ⟨pn q.1, set_keep q.2.1, set_keep q.2.2.1, set_keep q.2.2.2.1, set_keep q.2.2.2.2.1, set_keep q.2.2.2.2.2.1, set_keep q.2.2.2.2.2.2.1, set_keep q.2.2.2.2.2.2.2.1, (kU q.2.2.2.2.2.2.2.2 (fun q => q))⟩)), K1 y15, KN y16, KN y17, KN y18, (kU hbu id)⟩
    · obtain rfl := SI ho
      have hbu := hbw
      have hbw := hbw (nf (by rw [hz]; decide) (fun q => (y18 q).2.2.1) hi)
      obtain ⟨c0, c1, c2, c3, c4, c5, c6, c7, c8, c9, c10, c11, c12, c13, c14, c15⟩ := HK.out w' hbw
      exact V_ ho 28 ⟨pd hdf, ps hsz, KX hx, X, Gw, kw, Gb, mb, cb, t2, Y, K1 y0, K1 y1, (fun _ => pS hsz), K1 y3, K1 y4, K1 y5, K1 y6, K1 y7, K1 y8, K1 y9, K1 y10, K1 y11, K1 y12, (kF y13 (fun q => ⟨pn q.1, set_keep q.2.1, set_keep q.2.2.1, set_keep q.2.2.2.1, set_keep q.2.2.2.2.1, set_keep q.2.2.2.2.2.1, (kU q.2.2.2.2.2.2 (fun q => q))⟩)), (kF y14 (fun q => ⟨pn q.1, set_keep q.2.1, set_keep q.2.2.1, set_keep q.2.2.2.1, set_keep q.2.2.2.2.1, set_keep q.2.2.2.2.2.1, set_keep q.2.2.2.2.2.2.1, set_keep q.2.2.2.2.2.2.2.1, (kU q.2.2.2.2.2.2.2.2 (fun q => q))⟩)), KN y15, KN y16, KN y17, KN y18, (kU hbu id)⟩
    · obtain rfl := SI ho
      exact V_ ho 29 ⟨pd hdf, ps hsz, KX hx, X, Gw, kw, Gb, mb, cb, t2, Y, K1 y0, K1 y1, K1 y2, (fun _ => pS hsz), KN y4, KN y5, KN y6, K1 y7, K1 y8, K1 y9, K1 y10, K1 y11, K1 y12, (kF y13 (fun q => ⟨pn q.1, set_keep q.2.1, set_keep q.2.2.1, set_keep q.2.2.2.1, set_keep q.2.2.2.2.1, set_keep q.2.2.2.2.2.1, (kU q.2.2.2.2.2.2 (fun q => q))⟩)), (kF y14 (fun q => ⟨pn q.1, set_keep q.2.1, set_keep q.2.2.1, set_keep q.2.2.2.1, set_keep q.2.2.2.2.1, set_keep q.2.2.2.2.2.1, set_keep q.2.2.2.2.2.2.1, set_keep q.2.2.2.2.2.2.2.1, (kU q.2.2.2.2.2.2.2.2 (fun q => q))⟩)), KN y15, KN y16, KN y17, KN y18, (kU hbw id)⟩
    · obtain rfl := SI ho
      have v3 := hpv hp 3 (by simp)
      have ww3 := (y3 v3)
      have hbu := hbw
      have hbw := hbw (nf (by rw [hz]; decide) (fun q => (y18 q).2.2.2.2.1) hi)
      obtain ⟨c0, c1, c2, c3, c4, c5, c6, c7, c8, c9, c10, c11, c12, c13, c14, c15⟩ := HK.out w' hbw
      exact V_ ho 30 ⟨pd hdf, ps hsz, KX hx, X, Gw, kw, Gb, mb, cb, t2, Y, K1 y0, K1 y1, K1 y2, K1 y3, (fun _ => ⟨pS hsz, (set_keep v3)⟩), KN y5, KN y6, K1 y7, K1 y8, K1 y9, K1 y10, K1 y11, K1 y12, (kF y13 (fun q => ⟨pn q.1, set_keep q.2.1, set_keep q.2.2.1, set_keep q.2.2.2.1, set_keep q.2.2.2.2.1, set_keep q.2.2.2.2.2.1, (kU q.2.2.2.2.2.2 (fun q => q))⟩)), (kF y14 (fun q => ⟨pn q.1, set_keep q.2.1, set_keep q.2.2.1, set_keep q.2.2.2.1, set_keep q.2.2.2.2.1, set_keep q.2.2.2.2.2.1, set_keep q.2.2.2.2.2.2.1, set_keep q.2.2.2.2.2.2.2.1, (kU q.2.2.2.2.2.2.2.2 (fun q => q))⟩)), KN y15, KN y16, KN y17, KN y18, (kU hbu id)⟩
    · obtain rfl := SI ho
      have v4 := hpv hp 4 (by simp)
      have ww4 := (y4 v4).1
      exact V_ ho 31 ⟨pd hdf, ps hsz, KX hx, X, Gw, kw, Gb, mb, cb, t2, Y, K1 y0, K1 y1, K1 y2, K1 y3, K1 y4, (fun _ => ⟨pS hsz, (set_keep ((y4 v4).2)), (set_keep v4)⟩), KN y6, K1 y7, K1 y8, K1 y9, K1 y10, K1 y11, K1 y12, (kF y13 (fun q => ⟨pn q.1, set_keep q.2.1, set_keep q.2.2.1, set_keep q.2.2.2.1, set_keep q.2.2.2.2.1, set_keep q.2.2.2.2.2.1, (kU q.2.2.2.2.2.2 (fun q => q))⟩)), (kF y14 (fun q => ⟨pn q.1, set_keep q.2.1, set_keep q.2.2.1, set_keep q.2.2.2.1, set_keep q.2.2.2.2.1, set_keep q.2.2.2.2.2.1, set_keep q.2.2.2.2.2.2.1, set_keep q.2.2.2.2.2.2.2.1, (kU q.2.2.2.2.2.2.2.2 (fun q => q))⟩)), KN y15, KN y16, KN y17, KN y18, (kU hbw id)⟩
    · obtain rfl := SI ho
      have v5 := hpv hp 5 (by simp)
      have ww5 := (y5 v5).1
      have hbu := hbw
      have hbw := hbw (nf (by rw [hz]; decide) (fun q => (y18 q).2.2.2.2.2.2.1) hi)
      obtain ⟨d1_0, d1_1, d1_2, d1_3, d1_4, d1_5, d1_6, d1_7, d1_8, d1_9, d1_10⟩ := HK1.out w' hbw
      exact V_ ho 32 ⟨pd hdf, ps hsz, KX hx, X, Gw, kw, Gb, mb, cb, t2, Y, K1 y0, K1 y1, K1 y2, K1 y3, K1 y4, K1 y5, (fun _ => ⟨pS hsz, (set_keep ((y5 v5).2.1)), (set_keep ((y5 v5).2.2)), (set_keep v5)⟩), K1 y7, K1 y8, K1 y9, K1 y10, K1 y11, K1 y12, (kF y13 (fun q => ⟨pn q.1, set_keep q.2.1, set_keep q.2.2.1, set_keep q.2.2.2.1, set_keep q.2.2.2.2.1, set_keep q.2.2.2.2.2.1, (kU q.2.2.2.2.2.2 (fun q => q))⟩)), (kF y14 (fun q => ⟨pn q.1, set_keep q.2.1, set_keep q.2.2.1, set_keep q.2.2.2.1, set_keep q.2.2.2.2.1, set_keep q.2.2.2.2.2.1, set_keep q.2.2.2.2.2.2.1, set_keep q.2.2.2.2.2.2.2.1, (kU q.2.2.2.2.2.2.2.2 (fun q => q))⟩)), KN y15, KN y16, KN y17, KN y18, (kU hbu id)⟩
    · obtain rfl := SI ho
      exact V_ ho 33 ⟨pd hdf, ps hsz, KX hx, X, Gw, kw, Gb, mb, cb, t2, Y, K1 y0, K1 y1, K1 y2, K1 y3, K1 y4, K1 y5, K1 y6, (fun _ => pS hsz), K1 y8, K1 y9, K1 y10, K1 y11, K1 y12, (kF y13 (fun q => ⟨pn q.1, set_keep q.2.1, set_keep q.2.2.1, set_keep q.2.2.2.1, set_keep q.2.2.2.2.1, set_keep q.2.2.2.2.2.1, (kU q.2.2.2.2.2.2 (fun q => q))⟩)), KN y14, KN y15, KN y16, KN y17, KN y18, (kU hbw id)⟩
    · obtain rfl := SI ho
      exact V_ ho 34 ⟨pd hdf, ps hsz, KX hx, X, Gw, kw, Gb, mb, cb, t2, Y, K1 y0, K1 y1, K1 y2, K1 y3, K1 y4, K1 y5, K1 y6, K1 y7, (fun _ => pS hsz), KN y9, K1 y10, K1 y11, KN y12, KN y13, KN y14, KN y15, KN y16, KN y17, KN y18, (kU hbw id)⟩
    · obtain rfl := SI ho
      have v8 := hpv hp 8 (by simp)
      have ww8 := (y8 v8)
      have hbu := hbw
      have hbw := hbw (nf (by rw [hz]; decide) (fun q => (y18 q).2.2.2.2.2.2.2.2.2.1) hi)
      obtain ⟨c0, c1, c2, c3, c4, c5, c6, c7, c8, c9, c10, c11, c12, c13, c14, c15⟩ := HK.out w' hbw
      exact V_ ho 35 ⟨pd hdf, ps hsz, KX hx, X, Gw, kw, Gb, mb, cb, t2, Y, K1 y0, K1 y1, K1 y2, K1 y3, K1 y4, K1 y5, K1 y6, K1 y7, K1 y8, (fun _ => ⟨pS hsz, (set_keep v8)⟩), K1 y10, K1 y11, KN y12, KN y13, KN y14, KN y15, KN y16, KN y17, KN y18, (kU hbu id)⟩
    · obtain rfl := SI ho
      exact V_ ho 36 ⟨pd hdf, ps hsz, KX hx, X, Gw, kw, Gb, mb, cb, t2, Y, K1 y0, K1 y1, K1 y2, K1 y3, K1 y4, K1 y5, K1 y6, K1 y7, K1 y8, K1 y9, (fun _ => pS hsz), KN y11, KN y12, KN y13, KN y14, KN y15, KN y16, KN y17, KN y18, (kU hbw id)⟩
    · obtain rfl := SI ho
      have v10 := hpv hp 10 (by simp)
      have ww10 := (y10 v10)
      have hbu := hbw
      have hbw := hbw (nf (by rw [hz]; decide) (fun q => (y18 q).2.2.2.2.2.2.2.2.2.2.2.1) hi)
      obtain ⟨c0, c1, c2, c3, c4, c5, c6, c7, c8, c9, c10, c11, c12, c13, c14, c15⟩ := HK.out w' hbw
      exact V_ ho 37 ⟨pd hdf, ps hsz, KX hx, X, Gw, kw, Gb, mb, cb, t2, Y, K1 y0, K1 y1, K1 y2, K1 y3, K1 y4, K1 y5, K1 y6, K1 y7, K1 y8, K1 y9, K1 y10, (fun _ => ⟨pS hsz, (set_keep v10)⟩), KN y12, KN y13, KN y14, KN y15, KN y16, KN y17, KN y18, (kU hbu id)⟩
    · obtain rfl := SI ho
      have v9 := hpv hp 9 (by simp)
      have ww9 := (y9 v9).1
      have v11 := hpv hp 11 (by simp)
      have ww11 := (y11 v11).1
      have hbw := hbw (nf (by rw [hz]; decide) (fun q => (y18 q).2.2.2.2.2.2.2.2.2.2.2.2.1) hi)
      refine C_ ho 38 (ckbind_any h.name (h.tk) TA tn tc w') fun e u hg => ?_
      · obtain ⟨he, hb⟩ := hg
        refine ⟨.agg #[.string h.name, .int .i8 h.tk, .slice TA tn tc], he, ?_⟩
        have hbs := hbw.size
        have hzz := HZ.out
        have hbs2 := hb.size
        exact ⟨pd hdf, ps hsz, KX hx, X, Gw, kw, Gb, mb, cb, t2, Y, K1 y0, K1 y1, K1 y2, K1 y3, K1 y4, K1 y5, K1 y6, K1 y7, K1 y8, K1 y9, K1 y10, K1 y11, (fun _ => ⟨pS hsz, (set_keep ((y9 v9).2)), (set_keep v9), (set_keep ((y11 v11).2)), (set_keep v11)⟩), KN y13, KN y14, KN y15, KN y16, KN y17, KN y18, (fun _ => hbw.trans (hb.mono hbw.size))⟩
    · obtain rfl := SI ho
      refine wpOp_at ho rfl (wp_value2 39 rfl (v := .slice (some ⟨w'.heap.size, 0, none⟩) 1 1) (w2 := w'.alloc (.cells #[.string h.name, .int .i8 h.tk, .slice TA tn tc] 133)) ?_ ?_)
      · have v12 := hpv hp 12 (by simp)
        have ww12 := (y12 v12).1
        exact EV
      · have v12 := hpv hp 12 (by simp)
        have hbw := hbw (nf (by rw [hz]; decide) (fun q => (y18 q).2.2.2.2.2.2.2.2.2.2.2.2.2.1) hi)
        have hbs := hbw.size
        have hzz := HZ.out
        have hsa : (w'.alloc (.cells #[.string h.name, .int .i8 h.tk, .slice TA tn tc] 133)).heap.size = w'.heap.size + 1 := by simp
        have hba : Below w'.heap.size w' (w'.alloc (.cells #[.string h.name, .int .i8 h.tk, .slice TA tn tc] 133)) := (Below.refl _ _).alloc (Nat.le_refl _) _
        have hnew := heap_new w' (.cells #[.string h.name, .int .i8 h.tk, .slice TA tn tc] 133)
        exact ⟨pd hdf, ps hsz, KX hx, w'.heap.size, Gw, kw, Gb, mb, cb, t2, Y, K1 y0, K1 y1, K1 y2, K1 y3, K1 y4, K1 y5, K1 y6, K1 y7, K1 y8, K1 y9, K1 y10, K1 y11, K1 y12, (fun _ => ⟨pS hsz, (set_keep ((y12 v12).2.1)), (set_keep ((y12 v12).2.2.1)), (set_keep ((y12 v12).2.2.2.1)), (set_keep ((y12 v12).2.2.2.2)), (set_keep v12), (fun _ => Ck.EAt.one (t := (Ck.TT h)) hnew (Ck.Ly.later (HT.out.later hbw) hba))⟩), KN y14, KN y15, KN y16, KN y17, KN y18, (fun _ => hbw.alloc hbw.size _)⟩
    · obtain rfl := SI ho
      have v7 := hpv hp 7 (by simp)
      have ww7 := (y7 v7)
      have v13 := hpv hp 13 (by simp)
      have ww13 := (y13 v13).1
      have hbw := hbw (nf (by rw [hz]; decide) (fun q => (y18 q).2.2.2.2.2.2.2.2.2.2.2.2.2.2.1) hi)
      refine C_ ho 40 (ckwith_any (Ck.Cut Q w.heap.size (w.heap.size + 3)) l [(h.name, (Ck.TT h))] A n c X 1 1 w' (HE.out.below hbw) (((y13 v13).2.2.2.2.2.2) hi) (by decide) hn20) fun e u hg => ?_
      · obtain ⟨Gw', kw', rfl, he, hb⟩ := hg
        refine ⟨.slice Gw' (n + 1) kw', rfl, ?_⟩
        have hbs := hbw.size
        have hzz := HZ.out
        have hbs2 := hb.size
        exact ⟨pd hdf, ps hsz, KX hx, X, Gw', kw', Gb, mb, cb, t2, Y, K1 y0, K1 y1, K1 y2, K1 y3, K1 y4, K1 y5, K1 y6, K1 y7, K1 y8, K1 y9, K1 y10, K1 y11, K1 y12, (kF y13 (fun q => ⟨pn q.1, set_keep q.2.1, set_keep q.2.2.1, set_keep q.2.2.2.1, set_keep q.2.2.2.2.1, set_keep q.2.2.2.2.2.1, (fun qu => (set_self_false qu).elim)⟩)), (fun _ => ⟨pS hsz, (set_keep v7), (set_keep ((y13 v13).2.1)), (set_keep ((y13 v13).2.2.1)), (set_keep ((y13 v13).2.2.2.1)), (set_keep ((y13 v13).2.2.2.2.1)), (set_keep ((y13 v13).2.2.2.2.2.1)), (set_keep v13), (fun _ => he)⟩), KN y15, KN y16, KN y17, KN y18, (fun _ => hbw.trans (hb.mono hbw.size))⟩
    · obtain rfl := SI ho
      have v2 := hpv hp 2 (by simp)
      have ww2 := (y2 v2)
      have v6 := hpv hp 6 (by simp)
      have ww6 := (y6 v6).1
      have v14 := hpv hp 14 (by simp)
      have ww14 := (y14 v14).1
      have hbw := hbw (nf (by rw [hz]; decide) (fun q => (y18 q).2.2.2.2.2.2.2.2.2.2.2.2.2.2.2.1) hi)
      refine M_ ho 41 (T1 (Ck.Cut Q w.heap.size (w.heap.size + 3)) (l ++ [(h.name, Ck.TT h)]) Gw (n + 1) kw w' (HWB.out.trans (hbw.mono HWB.out.size)) HQM.out (HS.out.below hbw) (((y14 v14).2.2.2.2.2.2.2.2) hi) (by rw [List.length_append]; exact hb1)) fun e u hg => ?_
      · rcases Ck.Post.split hg with ⟨E, pp, x, hr1, hg⟩ | ⟨t2', hr1, hg⟩
        · have HP : Ck.Post Q w R e u := by rw [HR.out, hr1]; exact Ck.Gave.from hg (hfrom.out w' hbw)
          obtain ⟨g, rfl, hg2⟩ := hg
          exact .inr ⟨_, rfl, hdf, HP⟩
        · obtain ⟨Gb', mb', cb', rfl, hl, hb⟩ := hg
          refine .inl ?_
          refine ⟨.agg #[.int .i8 t2'.1, .slice Gb' mb' cb'], rfl, ?_⟩
          have hbs := hbw.size
          have hzz := HZ.out
          have hbs2 := hb.size
          exact ⟨pd hdf, ps hsz, KX hx, X, Gw, kw, Gb', mb', cb', t2', Y, K1 y0, K1 y1, K1 y2, K1 y3, K1 y4, K1 y5, K1 y6, K1 y7, K1 y8, K1 y9, K1 y10, K1 y11, K1 y12, (kF y13 (fun q => ⟨pn q.1, set_keep q.2.1, set_keep q.2.2.1, set_keep q.2.2.2.1, set_keep q.2.2.2.2.1, set_keep q.2.2.2.2.2.1, (kU q.2.2.2.2.2.2 (fun q => (Ck.EAt.below q hb)))⟩)), (kF y14 (fun q => ⟨pn q.1, set_keep q.2.1, set_keep q.2.2.1, set_keep q.2.2.2.1, set_keep q.2.2.2.2.1, set_keep q.2.2.2.2.2.1, set_keep q.2.2.2.2.2.2.1, set_keep q.2.2.2.2.2.2.2.1, (fun qu => (set_self_false qu).elim)⟩)), (fun _ => ⟨pS hsz, (set_keep v2), (set_keep ((y6 v6).2.1)), (set_keep ((y6 v6).2.2.1)), (set_keep ((y6 v6).2.2.2)), (set_keep v6), (set_keep ((y14 v14).2.1)), (set_keep ((y14 v14).2.2.1)), (set_keep ((y14 v14).2.2.2.1)), (set_keep ((y14 v14).2.2.2.2.1)), (set_keep ((y14 v14).2.2.2.2.2.1)), (set_keep ((y14 v14).2.2.2.2.2.2.1)), (set_keep ((y14 v14).2.2.2.2.2.2.2.1)), (set_keep v14), hr1, Ck.Ly.weak hl (fun b _ hq => Ck.Cut.in (by omega) hq)⟩), KN y16, KN y17, KN y18, (fun _ => hbw.trans (hb.mono hbw.size))⟩
    · obtain rfl := SI ho
      refine wpOp_at ho rfl (wp_value2 42 rfl (v := .slice (some ⟨w'.heap.size, 0, none⟩) 2 2) (w2 := w'.alloc (.cells #[.int .i8 h.tk, .slice TA tn tc, .int .i8 t2.1, .slice Gb mb cb] 25)) ?_ ?_)
      · have v1 := hpv hp 1 (by simp)
        have ww1 := (y1 v1).1
        have v15 := hpv hp 15 (by simp)
        have ww15 := (y15 v15).1
        exact EV
      · have v1 := hpv hp 1 (by simp)
        have v15 := hpv hp 15 (by simp)
        have hbw := hbw (nf (by rw [hz]; decide) (fun q => (y18 q).2.2.2.2.2.2.2.2.2.2.2.2.2.2.2.2.1) hi)
        have hbs := hbw.size
        have hzz := HZ.out
        have hsa : (w'.alloc (.cells #[.int .i8 h.tk, .slice TA tn tc, .int .i8 t2.1, .slice Gb mb cb] 25)).heap.size = w'.heap.size + 1 := by simp
        have hba : Below w'.heap.size w' (w'.alloc (.cells #[.int .i8 h.tk, .slice TA tn tc, .int .i8 t2.1, .slice Gb mb cb] 25)) := (Below.refl _ _).alloc (Nat.le_refl _) _
        have hnew := heap_new w' (.cells #[.int .i8 h.tk, .slice TA tn tc, .int .i8 t2.1, .slice Gb mb cb] 25)
        exact ⟨pd hdf, ps hsz, KX hx, X, Gw, kw, Gb, mb, cb, t2, w'.heap.size, K1 y0, K1 y1, K1 y2, K1 y3, K1 y4, K1 y5, K1 y6, K1 y7, K1 y8, K1 y9, K1 y10, K1 y11, K1 y12, (kF y13 (fun q => ⟨pn q.1, set_keep q.2.1, set_keep q.2.2.1, set_keep q.2.2.2.1, set_keep q.2.2.2.2.1, set_keep q.2.2.2.2.2.1, (kU q.2.2.2.2.2.2 (fun q => (Ck.EAt.below q hba)))⟩)), (kF y14 (fun q => ⟨pn q.1, set_keep q.2.1, set_keep q.2.2.1, set_keep q.2.2.2.1, set_keep q.2.2.2.2.1, set_keep q.2.2.2.2.2.1, set_keep q.2.2.2.2.2.2.1, set_keep q.2.2.2.2.2.2.2.1, (kU q.2.2.2.2.2.2.2.2 (fun q => (Ck.EAt.below q hba)))⟩)), K1 y15, (fun _ => ⟨pS hsz, (set_keep ((y1 v1).2)), (set_keep v1), (set_keep ((y15 v15).2.1)), (set_keep ((y15 v15).2.2.1)), (set_keep ((y15 v15).2.2.2.1)), (set_keep ((y15 v15).2.2.2.2.1)), (set_keep ((y15 v15).2.2.2.2.2.1)), (set_keep ((y15 v15).2.2.2.2.2.2.1)), (set_keep ((y15 v15).2.2.2.2.2.2.2.1)), (set_keep ((y15 v15).2.2.2.2.2.2.2.2.1)), (set_keep ((y15 v15).2.2.2.2.2.2.2.2.2.1)), (set_keep ((y15 v15).2.2.2.2.2.2.2.2.2.2.1)), (set_keep ((y15 v15).2.2.2.2.2.2.2.2.2.2.2.1)), (set_keep ((y15 v15).2.2.2.2.2.2.2.2.2.2.2.2.1)), (set_keep ((y15 v15).2.2.2.2.2.2.2.2.2.2.2.2.2.1)), (set_keep v15), Ck.Ly.two (a := Ck.TT h) (b := t2) hnew (.inr (by omega)) ((HT.out.later hbw).later hba) (((y15 v15).2.2.2.2.2.2.2.2.2.2.2.2.2.2.2).later hba) 3 (by decide)⟩), KN y17, KN y18, (fun _ => hbw.alloc hbw.size _)⟩
    · obtain rfl := SI ho
      have v16 := hpv hp 16 (by simp)
      have ww16 := (y16 v16).1
      have hbw := hbw (nf (by rw [hz]; decide) (fun q => (y18 q).2.2.2.2.2.2.2.2.2.2.2.2.2.2.2.2.2.1) hi)
      refine C_ ho 43 (ckof_any 3 (some ⟨Y, 0, none⟩) 2 2 w') fun e u hg => ?_
      · obtain ⟨he, hb⟩ := hg
        refine ⟨.agg #[.int .i8 3, .slice (some ⟨Y, 0, none⟩) 2 2], he, ?_⟩
        have hbs := hbw.size
        have hzz := HZ.out
        have hbs2 := hb.size
        exact ⟨pd hdf, ps hsz, KX hx, X, Gw, kw, Gb, mb, cb, t2, Y, K1 y0, K1 y1, K1 y2, K1 y3, K1 y4, K1 y5, K1 y6, K1 y7, K1 y8, K1 y9, K1 y10, K1 y11, K1 y12, (kF y13 (fun q => ⟨pn q.1, set_keep q.2.1, set_keep q.2.2.1, set_keep q.2.2.2.1, set_keep q.2.2.2.2.1, set_keep q.2.2.2.2.2.1, (kU q.2.2.2.2.2.2 (fun q => (Ck.EAt.below q hb)))⟩)), (kF y14 (fun q => ⟨pn q.1, set_keep q.2.1, set_keep q.2.2.1, set_keep q.2.2.2.1, set_keep q.2.2.2.2.1, set_keep q.2.2.2.2.2.1, set_keep q.2.2.2.2.2.2.1, set_keep q.2.2.2.2.2.2.2.1, (kU q.2.2.2.2.2.2.2.2 (fun q => (Ck.EAt.below q hb)))⟩)), K1 y15, K1 y16, (fun _ => ⟨pS hsz, (set_keep ((y16 v16).2.1)), (set_keep ((y16 v16).2.2.1)), (set_keep ((y16 v16).2.2.2.1)), (set_keep ((y16 v16).2.2.2.2.1)), (set_keep ((y16 v16).2.2.2.2.2.1)), (set_keep ((y16 v16).2.2.2.2.2.2.1)), (set_keep ((y16 v16).2.2.2.2.2.2.2.1)), (set_keep ((y16 v16).2.2.2.2.2.2.2.2.1)), (set_keep ((y16 v16).2.2.2.2.2.2.2.2.2.1)), (set_keep ((y16 v16).2.2.2.2.2.2.2.2.2.2.1)), (set_keep ((y16 v16).2.2.2.2.2.2.2.2.2.2.2.1)), (set_keep ((y16 v16).2.2.2.2.2.2.2.2.2.2.2.2.1)), (set_keep ((y16 v16).2.2.2.2.2.2.2.2.2.2.2.2.2.1)), (set_keep ((y16 v16).2.2.2.2.2.2.2.2.2.2.2.2.2.2.1)), (set_keep ((y16 v16).2.2.2.2.2.2.2.2.2.2.2.2.2.2.2.1)), (set_keep ((y16 v16).2.2.2.2.2.2.2.2.2.2.2.2.2.2.2.2.1)), (set_keep v16)⟩), KN y18, (fun _ => hbw.trans (hb.mono hbw.size))⟩
    · obtain rfl := SI ho
      have v17 := hpv hp 17 (by simp)
      have ww17 := (y17 v17).1
      have hbw := hbw hi
      have hbox := heap_below hbw (heap_lt H2.out) H2.out
      obtain ⟨bc0, bc1, bf0, bf1, -⟩ := own2 hbox
      refine wpOp_at ho rfl (wp_store rfl (w2 := (w'.setCell ⟨w.heap.size + 1 + 1, 0, none⟩ (.int .i8 3)).setCell ⟨w.heap.size + 1 + 1, 1, none⟩ (.slice (some ⟨Y, 0, none⟩) 2 2)) ?_ ?_)
      · exact EV
      · have hsa : ((w'.setCell ⟨w.heap.size + 1 + 1, 0, none⟩ (.int .i8 3)).setCell ⟨w.heap.size + 1 + 1, 1, none⟩ (.slice (some ⟨Y, 0, none⟩) 2 2)).heap.size = w'.heap.size := by simp
        have hbs := hbw.size
        have hzz := HZ.out
        exact ⟨hdf, hsz, hx, X, Gw, kw, Gb, mb, cb, t2, Y, K1 y0, K1 y1, K1 y2, K1 y3, K1 y4, K1 y5, K1 y6, K1 y7, K1 y8, K1 y9, K1 y10, K1 y11, K1 y12, (kF y13 (fun q => ⟨q.1, set_keep q.2.1, set_keep q.2.2.1, set_keep q.2.2.2.1, set_keep q.2.2.2.2.1, set_keep q.2.2.2.2.2.1, (kT ((y17 v17).2.2.2.2.2.2.2.2.2.2.2.2.2.2.2.1))⟩)), (kF y14 (fun q => ⟨q.1, set_keep q.2.1, set_keep q.2.2.1, set_keep q.2.2.2.1, set_keep q.2.2.2.2.1, set_keep q.2.2.2.2.2.1, set_keep q.2.2.2.2.2.2.1, set_keep q.2.2.2.2.2.2.2.1, (kT ((y17 v17).2.2.2.2.2.2.2.2.2.2.2.2.2.2.2.2.1))⟩)), K1 y15, K1 y16, K1 y17, (fun _ => ⟨(set_keep ((y17 v17).2.1)), (set_keep ((y17 v17).2.2.1)), (set_keep ((y17 v17).2.2.2.1)), (set_keep ((y17 v17).2.2.2.2.1)), (set_keep ((y17 v17).2.2.2.2.2.1)), (set_keep ((y17 v17).2.2.2.2.2.2.1)), (set_keep ((y17 v17).2.2.2.2.2.2.2.1)), (set_keep ((y17 v17).2.2.2.2.2.2.2.2.1)), (set_keep ((y17 v17).2.2.2.2.2.2.2.2.2.1)), (set_keep ((y17 v17).2.2.2.2.2.2.2.2.2.2.1)), (set_keep ((y17 v17).2.2.2.2.2.2.2.2.2.2.2.1)), (set_keep ((y17 v17).2.2.2.2.2.2.2.2.2.2.2.2.1)), (set_keep ((y17 v17).2.2.2.2.2.2.2.2.2.2.2.2.2.1)), (set_keep ((y17 v17).2.2.2.2.2.2.2.2.2.2.2.2.2.2.1)), (set_keep ((y17 v17).2.2.2.2.2.2.2.2.2.2.2.2.2.2.2.1)), (set_keep ((y17 v17).2.2.2.2.2.2.2.2.2.2.2.2.2.2.2.2.1)), (set_keep ((y17 v17).2.2.2.2.2.2.2.2.2.2.2.2.2.2.2.2.2)), (set_keep v17), set_two hbox _ _, below_set2 (hfrom.out w' hbw) (by omega) _ _⟩), (fun qu => (set_self_false qu).elim)⟩
  · rintro listed u w' t ht hu ⟨-, -, -, X, Gw, kw, Gb, mb, cb, t2, Y, y0, y1, y2, y3, y4, y5, y6, y7, y8, y9, y10, y11, y12, y13, y14, y15, y16, y17, y18, hbw⟩ hall
    have v15 := hall 15 (by decide)
    have v16 := hall 16 (by decide)
    have v18 := hall 18 (by decide)
    have HBX := Lib.hid ((y18 v18).2.2.2.2.2.2.2.2.2.2.2.2.2.2.2.2.2.2.2)
    have P1 := ((y15 v15).2.2.2.2.2.2.2.2.2.2.2.2.2.2.1)
    have hl := ((y16 v16).2.2.2.2.2.2.2.2.2.2.2.2.2.2.2.2.2)
    have hx := ((y18 v18).2.2.2.2.2.2.2.2.2.2.2.2.2.2.2.2.2.2.1)
    clear y0 y1 y2 y3 y4 y5 y6 y7 y8 y9 y10 y11 y12 y13 y14 y15 y16 y17 y18 v15 v16 v18 hall hu
    clear hbw
    simp only [over, List.setIfInBounds_toArray, List.set_cons_succ, List.set_cons_zero] at ht
    subst ht
    obtain ⟨k0, k1', -, -, -⟩ := own2 hx
    go_wp2_with fail
    refine ⟨rfl, .agg #[.int .i8 3, .slice (some ⟨Y, 0, none⟩) 2 2], by simp [results, Tryz.results49, go_sem, k0, k1'], ?_⟩
    rw [HR.out, P1]
    exact ⟨some ⟨Y, 0, none⟩, 2, 2, rfl, hl.weak (fun b _ hq => hq.out (by omega)), HBX.out⟩

end Go.Proofs.YtknhoagicdfikaaGreatDoor
