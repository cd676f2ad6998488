/-
  Layer 9: over, a pair's parts.
-/
import Derived.Test.YtknhoagicdfikaaGreatDoorM20
namespace Go.Proofs.YtknhoagicdfikaaGreatDoor
open Go.RowKit
set_option maxHeartbeats 1500000 in
set_option maxRecDepth 100000 in
theorem ckover_10 (rv : Cg.Rv) (Q : Nat → Prop) (h : Hd) (p : Pl) (a : Ck.T2) (Y n cap : Nat) (w : World) (hk : h.kind = 10) (hn : n = 1) (hR : Ck.Row Q w [a] Y) (hS : Shapes w) (hoka : Ty.okT a.1 a.2 = true) :
    Calls Tryz.prog 77 #[.agg #[.func (Fn.func rv.fr) #[] rv.cpt, .func (Fn.func rv.fa) #[] #[], .func (Fn.func rv.fm) #[] #[], .func (Fn.func rv.ft) #[] #[], rv.vg], .agg #[.int .i8 h.kind, .string h.name, .string h.arg, .int .i64 h.num, .int .i8 h.tk, .slice p.TA p.tn p.tc, .int .i8 h.uk, .slice p.UA p.un p.uc, .int .i64 h.label, .int .i64 h.pos, .slice p.A p.n p.c], .slice (some ⟨Y, 0, none⟩) n cap] w (Ck.Post Q w (Cg.over rv.D h a (0, .nil) (0, .nil))) := by
  rw [Cg.over_10 _ _ _ _ _ hk]
  obtain ⟨Ga, ma, ca, a0, a1, aL⟩ := hR.cell 0 a rfl
  obtain ⟨w1, hw1, hB3, h0, h1, h2, hz⟩ := boxes3 w (.cells #[.func (Fn.func rv.fr) #[] rv.cpt, .func (Fn.func rv.fa) #[] #[], .func (Fn.func rv.fm) #[] #[], .func (Fn.func rv.ft) #[] #[], rv.vg] 47) (.cells #[.int .i8 h.kind, .string h.name, .string h.arg, .int .i64 h.num, .int .i8 h.tk, .slice p.TA p.tn p.tc, .int .i8 h.uk, .slice p.UA p.un p.uc, .int .i64 h.label, .int .i64 h.pos, .slice p.A p.n p.c] 28) (.cells #[.int .i8 0, .slice none 0 0] 25)
  have HW1 := Lib.hid hw1
  have HB3 := Lib.hid hB3
  have H0 := Lib.hid h0
  have H1 := Lib.hid h1
  have H2 := Lib.hid h2
  have HZ := Lib.hid hz
  have HAL : Hid (Ck.Ly (Ck.Cut Q w.heap.size (w.heap.size + 3)) w1 a Ga ma ca) := Lib.hid ((aL.weak (fun b hl hq => .inl ⟨hq, hl⟩)).later hB3)
  have HS := Lib.hid (hS.below hB3)
  have hfrom := Lib.hid (fun (W : World) (hb : Below w1.heap.size w1 W) => hB3.trans (hb.mono hB3.size))
  have HA := Lib.hid (And.intro (keep_cell a0 hB3) (keep_cell a1 hB3))
  have HK := Lib.hid (fun (W : World) (hb : Below w1.heap.size w1 W) => (show W.cell? ⟨w.heap.size, 0, none⟩ = some (.func (Fn.func rv.fr) #[] rv.cpt) ∧ W.cell? ⟨w.heap.size, 1, none⟩ = some (.func (Fn.func rv.fa) #[] #[]) ∧ W.cell? ⟨w.heap.size, 2, none⟩ = some (.func (Fn.func rv.fm) #[] #[]) ∧ W.cell? ⟨w.heap.size, 3, none⟩ = some (.func (Fn.func rv.ft) #[] #[]) ∧ W.cell? ⟨w.heap.size, 4, none⟩ = some rv.vg ∧ W.cell? ⟨w.heap.size + 1, 0, none⟩ = some (.int .i8 h.kind) ∧ W.cell? ⟨w.heap.size + 1, 1, none⟩ = some (.string h.name) ∧ W.cell? ⟨w.heap.size + 1, 2, none⟩ = some (.string h.arg) ∧ W.cell? ⟨w.heap.size + 1, 3, none⟩ = some (.int .i64 h.num) ∧ W.cell? ⟨w.heap.size + 1, 4, none⟩ = some (.int .i8 h.tk) ∧ W.cell? ⟨w.heap.size + 1, 5, none⟩ = some (.slice p.TA p.tn p.tc) ∧ W.cell? ⟨w.heap.size + 1, 6, none⟩ = some (.int .i8 h.uk) ∧ W.cell? ⟨w.heap.size + 1, 7, none⟩ = some (.slice p.UA p.un p.uc) ∧ W.cell? ⟨w.heap.size + 1, 8, none⟩ = some (.int .i64 h.label) ∧ W.cell? ⟨w.heap.size + 1, 9, none⟩ = some (.int .i64 h.pos) ∧ W.cell? ⟨w.heap.size + 1, 10, none⟩ = some (.slice p.A p.n p.c) ∧ W.cell? ⟨Y, 0, none⟩ = some (.int .i8 a.1) ∧ W.cell? ⟨Y, 1, none⟩ = some (.slice Ga ma ca) from by
    obtain ⟨r0, r1, r2, r3, r4, -⟩ := own5 (heap_below hb (heap_lt H0.out) H0.out)
    obtain ⟨q0, q1, q2, q3, q4, q5, q6, q7, q8, q9, q10, ql⟩ := own11 (heap_below hb (heap_lt H1.out) H1.out)
    exact ⟨r0, r1, r2, r3, r4, q0, q1, q2, q3, q4, q5, q6, q7, q8, q9, q10, keep_cell HA.out.1 hb, keep_cell HA.out.2 hb⟩))
  clear hR hS a0 a1 aL hB3 h0 h1 h2 hz
  subst hn
  have HKK := Lib.hid hk
  clear hk
  obtain ⟨R, hR⟩ : ∃ R, R = (if rv.D.asO 4 a = true then .ok (rv.D.asl 4 a) else Ck.fault h 90) := ⟨_, rfl⟩
  rw [← hR]
  have HR := Lib.hid hR
  clear hR
  go_enter Tryz.func77, Tryz.ntmps77
  go_upto_region 1 with fail
  rw [← HW1.out]
  obtain ⟨r0, r1, r2, r3, r4, q0, q1, q2, q3, q4, q5, q6, q7, q8, q9, q10, y0, y1⟩ := HK.out w1 (Below.refl _ _)
  rw [HKK.out] at q0
  clear hw1
  go_upto_region 12 with fail
  clear r0 r1 r2 r3 r4 q0 q1 q2 q3 q4 q5 q6 q7 q8 q9 q10 y0 y1
  refine region_inv_end2 170 rfl [63, 64, 65, 66, 67, 68, 62, 69, 70, 9, 10] (by kernel_rfl) (by kernel_rfl) (by kernel_rfl) (fun listed a' w' => a'.defers = [] ∧ a'.tmps.size = 170 ∧ (a'.eval (.tmp 2) = .slice (some ⟨Y, 0, none⟩) 1 cap ∧ a'.eval (.tmp 3) = .pointer (some ⟨w.heap.size, 0, none⟩) ∧ a'.eval (.tmp 4) = .pointer (some ⟨w.heap.size + 1, 0, none⟩) ∧ a'.eval (.tmp 6) = .pointer (some ⟨w.heap.size + 1 + 1, 0, none⟩)) ∧ ∃ Z1 Z2 Gl ml cl Gr mr cr, (listed[0]? = some true → (a'.eval (.tmp 63) = .agg #[.func (Fn.func rv.fr) #[] rv.cpt, .func (Fn.func rv.fa) #[] #[], .func (Fn.func rv.fm) #[] #[], .func (Fn.func rv.ft) #[] #[], rv.vg])) ∧ (listed[1]? = some true → (a'.eval (.tmp 64) = .agg #[.int .i8 h.kind, .string h.name, .string h.arg, .int .i64 h.num, .int .i8 h.tk, .slice p.TA p.tn p.tc, .int .i8 h.uk, .slice p.UA p.un p.uc, .int .i64 h.label, .int .i64 h.pos, .slice p.A p.n p.c])) ∧ (listed[2]? = some true → (a'.eval (.tmp 65) = .slice (some ⟨Y, 0, none⟩) 1 cap)) ∧ (listed[3]? = some true → (a'.eval (.tmp 66) = .pointer (some ⟨Y, 0, none⟩))) ∧ (listed[4]? = some true → (a'.eval (.tmp 67) = .agg #[.int .i8 a.1, .slice Ga ma ca])) ∧ (listed[5]? = some true → (a'.eval (.tmp 68) = .tuple #[.agg #[.int .i8 (rv.D.asl 4 a).1, .slice Gl ml cl], .agg #[.int .i8 (rv.D.asr 4 a).1, .slice Gr mr cr]]) ∧ (rv.D.asO 4 a = true) ∧ (Ck.Ly (fun b => Ck.Cut Q w.heap.size (w.heap.size + 3) b ∧ b ≠ Z1 ∧ b ≠ Z2) w' (rv.D.asl 4 a) Gl ml cl) ∧ (Ck.Ly (fun b => Ck.Cut Q w.heap.size (w.heap.size + 3) b ∧ b ≠ Z1 ∧ b ≠ Z2) w' (rv.D.asr 4 a) Gr mr cr)) ∧ (listed[6]? = some true → (a'.eval (.tmp 62) = .tuple #[.agg #[.int .i8 (rv.D.asl 4 a).1, .slice Gl ml cl], .agg #[.int .i8 (rv.D.asr 4 a).1, .slice Gr mr cr]]) ∧ (listed[5]? = some true)) ∧ (listed[7]? = some true → (a'.eval (.tmp 69) = .agg #[.int .i8 (rv.D.asl 4 a).1, .slice Gl ml cl]) ∧ (listed[5]? = some true)) ∧ (listed[8]? = some true → (a'.eval (.tmp 70) = .agg #[.int .i8 (rv.D.asr 4 a).1, .slice Gr mr cr]) ∧ (listed[5]? = some true)) ∧ (listed[9]? = some true → (a'.eval (.tmp 9) = .pointer (some ⟨Z1, 0, none⟩)) ∧ (w1.heap.size ≤ Z1) ∧ (Z1 ≠ Z2) ∧ (∃ u0 u1, w'.heap[Z1]? = some (.cells #[u0, u1] 25 (0, 0)))) ∧ (listed[10]? = some true → (a'.eval (.tmp 10) = .pointer (some ⟨Z2, 0, none⟩)) ∧ (w1.heap.size ≤ Z2) ∧ (Z1 ≠ Z2) ∧ (∃ u0 u1, w'.heap[Z2]? = some (.cells #[u0, u1] 25 (0, 0)))) ∧ (listed[11]? = some true → (listed[5]? = some true) ∧ (listed[9]? = some true) ∧ (w'.heap[Z1]? = some (.cells #[.int .i8 (rv.D.asl 4 a).1, .slice Gl ml cl] 25 (0, 0)))) ∧ (listed[12]? = some true → (listed[5]? = some true) ∧ (listed[10]? = some true) ∧ (w'.heap[Z2]? = some (.cells #[.int .i8 (rv.D.asr 4 a).1, .slice Gr mr cr] 25 (0, 0)))) ∧ (Z1 < w'.heap.size ∧ (Z1 = w.heap.size + 2 ∨ w1.heap.size ≤ Z1)) ∧ (Z2 < w'.heap.size ∧ (Z2 = w.heap.size + 2 ∨ w1.heap.size ≤ Z2)) ∧ Below w1.heap.size w1 w') (fun _ _ _ h => h.1) ?_ ?_ ?_
  · have hz := HZ.out
    refine ⟨rfl, rfl, ⟨rfl, rfl, rfl, rfl⟩, (w.heap.size + 2), (w.heap.size + 2), none, 0, 0, none, 0, 0, FH, FH, FH, FH, FH, FH, FH, FH, FH, FH, FH, FH, FH, ⟨(Nat.lt_of_lt_of_le (by omega) (show Below w1.heap.size w1 w1.drew from (Below.refl _ _).drew).size), .inl rfl⟩, ⟨(Nat.lt_of_lt_of_le (by omega) (show Below w1.heap.size w1 w1.drew from (Below.refl _ _).drew).size), .inl rfl⟩, (Below.refl _ _).drew⟩
  · rintro listed a' w' i o ⟨hdf, hsz, hx, Z1, Z2, Gl, ml, cl, Gr, mr, cr, y0, y1, y2, y3, y4, y5, y6, y7, y8, y9, y10, y11, y12, ⟨sZ1, hZZ1⟩, ⟨sZ2, hZZ2⟩, hbw⟩ hz hsz0 ho hi hp
    have hi13 : i < 13 := by
      rcases Nat.lt_or_ge i 13 with q | q
      · exact q
      · rw [Array.getElem?_eq_none (by simpa using q)] at ho; cases ho
    rcases (by omega : i = 0 ∨ i = 1 ∨ i = 2 ∨ i = 3 ∨ i = 4 ∨ i = 5 ∨ i = 6 ∨ i = 7 ∨ i = 8 ∨ i = 9 ∨ i = 10 ∨ i = 11 ∨ i = 12) with rfl | rfl | rfl | rfl | rfl | rfl | rfl | rfl | rfl | rfl | rfl | rfl | rfl
    · obtain rfl := SI ho
      obtain ⟨c0, c1, c2, c3, c4, c5, c6, c7, c8, c9, c10, c11, c12, c13, c14, c15, c16, c17⟩ := HK.out w' hbw
      exact V_ ho 63 ⟨pd hdf, ps hsz, KX hx, Z1, Z2, Gl, ml, cl, Gr, mr, cr, (fun _ => pS hsz), K1 y1, K1 y2, K1 y3, K1 y4, K1 y5, K1 y6, K1 y7, K1 y8, K1 y9, K1 y10, K1 y11, K1 y12, ⟨sZ1, hZZ1⟩, ⟨sZ2, hZZ2⟩, hbw⟩
    · obtain rfl := SI ho
      obtain ⟨c0, c1, c2, c3, c4, c5, c6, c7, c8, c9, c10, c11, c12, c13, c14, c15, c16, c17⟩ := HK.out w' hbw
      exact V_ ho 64 ⟨pd hdf, ps hsz, KX hx, Z1, Z2, Gl, ml, cl, Gr, mr, cr, K1 y0, (fun _ => pS hsz), K1 y2, K1 y3, K1 y4, K1 y5, K1 y6, K1 y7, K1 y8, K1 y9, K1 y10, K1 y11, K1 y12, ⟨sZ1, hZZ1⟩, ⟨sZ2, hZZ2⟩, hbw⟩
    · obtain rfl := SI ho
      exact V_ ho 65 ⟨pd hdf, ps hsz, KX hx, Z1, Z2, Gl, ml, cl, Gr, mr, cr, K1 y0, K1 y1, (fun _ => pS hsz), K1 y3, K1 y4, K1 y5, K1 y6, K1 y7, K1 y8, K1 y9, K1 y10, K1 y11, K1 y12, ⟨sZ1, hZZ1⟩, ⟨sZ2, hZZ2⟩, hbw⟩
    · obtain rfl := SI ho
      have v2 := hpv hp 2 (by simp)
      have ww2 := (y2 v2)
      exact V_ ho 66 ⟨pd hdf, ps hsz, KX hx, Z1, Z2, Gl, ml, cl, Gr, mr, cr, K1 y0, K1 y1, K1 y2, (fun _ => pS hsz), K1 y4, K1 y5, K1 y6, K1 y7, K1 y8, K1 y9, K1 y10, K1 y11, K1 y12, ⟨sZ1, hZZ1⟩, ⟨sZ2, hZZ2⟩, hbw⟩
    · obtain rfl := SI ho
      have v3 := hpv hp 3 (by simp)
      have ww3 := (y3 v3)
      obtain ⟨c0, c1, c2, c3, c4, c5, c6, c7, c8, c9, c10, c11, c12, c13, c14, c15, c16, c17⟩ := HK.out w' hbw
      exact V_ ho 67 ⟨pd hdf, ps hsz, KX hx, Z1, Z2, Gl, ml, cl, Gr, mr, cr, K1 y0, K1 y1, K1 y2, K1 y3, (fun _ => pS hsz), K1 y5, K1 y6, K1 y7, K1 y8, K1 y9, K1 y10, K1 y11, K1 y12, ⟨sZ1, hZZ1⟩, ⟨sZ2, hZZ2⟩, hbw⟩
    · obtain rfl := SI ho
      have v0 := hpv hp 0 (by simp)
      have ww0 := (y0 v0)
      have v1 := hpv hp 1 (by simp)
      have ww1 := (y1 v1)
      have v4 := hpv hp 4 (by simp)
      have ww4 := (y4 v4)
      refine M_ ho 68 (ckparts_any rv (fun b => Ck.Cut Q w.heap.size (w.heap.size + 3) b ∧ b ≠ Z1 ∧ b ≠ Z2) h p 4 a Ga ma ca w' (by decide) (Ck.Ly.later (Ck.Ly.weak HAL.out (fun b hl hq => ⟨hq, zne_of (Nat.le_of_eq HZ.out.symm) hZZ1 hl hq, zne_of (Nat.le_of_eq HZ.out.symm) hZZ2 hl hq⟩)) hbw) hoka (HS.out.below hbw)) fun e u hg => ?_
      · rcases hg with ⟨hq, hg⟩ | ⟨hq, hg⟩
        · have HP : Ck.Post Q w R e u := by rw [HR.out, if_neg (ne_of_false (show rv.D.asO 4 a = false from hq))]; exact Ck.Gave.from hg (hfrom.out w' hbw)
          obtain ⟨g, rfl, hg2⟩ := hg
          exact .inr ⟨_, rfl, hdf, HP⟩
        · obtain ⟨Gl', ml', cl', Gr', mr', cr', rfl, hl, hl2, hb⟩ := hg
          refine .inl ?_
          refine ⟨.tuple #[.agg #[.int .i8 (rv.D.asl 4 a).1, .slice Gl' ml' cl'], .agg #[.int .i8 (rv.D.asr 4 a).1, .slice Gr' mr' cr']], rfl, ?_⟩
          have hbs := hbw.size
          have hzz := HZ.out
          have hbs2 := hb.size
          exact ⟨pd hdf, ps hsz, KX hx, Z1, Z2, Gl', ml', cl', Gr', mr', cr', K1 y0, K1 y1, K1 y2, K1 y3, K1 y4, (fun _ => ⟨pS hsz, hq, Ck.Ly.weak hl (fun b _ hq => cutz2_in (by omega) (by omega) (by omega) hq), Ck.Ly.weak hl2 (fun b _ hq => cutz2_in (by omega) (by omega) (by omega) hq)⟩), KN y6, KN y7, KN y8, K1 y9, K1 y10, KN y11, KN y12, ⟨(by omega), hZZ1⟩, ⟨(by omega), hZZ2⟩, hbw.trans (hb.mono hbw.size)⟩
    · obtain rfl := SI ho
      have v5 := hpv hp 5 (by simp)
      have ww5 := (y5 v5).1
      exact V_ ho 62 ⟨pd hdf, ps hsz, KX hx, Z1, Z2, Gl, ml, cl, Gr, mr, cr, K1 y0, K1 y1, K1 y2, K1 y3, K1 y4, K1 y5, (fun _ => ⟨pS hsz, (set_keep v5)⟩), K1 y7, K1 y8, K1 y9, K1 y10, K1 y11, K1 y12, ⟨sZ1, hZZ1⟩, ⟨sZ2, hZZ2⟩, hbw⟩
    · obtain rfl := SI ho
      have v6 := hpv hp 6 (by simp)
      have ww6 := (y6 v6).1
      exact V_ ho 69 ⟨pd hdf, ps hsz, KX hx, Z1, Z2, Gl, ml, cl, Gr, mr, cr, K1 y0, K1 y1, K1 y2, K1 y3, K1 y4, K1 y5, K1 y6, (fun _ => ⟨pS hsz, (set_keep ((y6 v6).2))⟩), K1 y8, K1 y9, K1 y10, K1 y11, K1 y12, ⟨sZ1, hZZ1⟩, ⟨sZ2, hZZ2⟩, hbw⟩
    · obtain rfl := SI ho
      have v6 := hpv hp 6 (by simp)
      have ww6 := (y6 v6).1
      exact V_ ho 70 ⟨pd hdf, ps hsz, KX hx, Z1, Z2, Gl, ml, cl, Gr, mr, cr, K1 y0, K1 y1, K1 y2, K1 y3, K1 y4, K1 y5, K1 y6, K1 y7, (fun _ => ⟨pS hsz, (set_keep ((y6 v6).2))⟩), K1 y9, K1 y10, K1 y11, K1 y12, ⟨sZ1, hZZ1⟩, ⟨sZ2, hZZ2⟩, hbw⟩
    · obtain rfl := SI ho
      refine wpOp_at ho rfl (wp_value2 9 rfl (v := .pointer (some ⟨w'.heap.size, 0, none⟩)) (w2 := w'.alloc (.cells #[.int .i8 0, .slice none 0 0] 25)) ?_ ?_)
      · exact EV
      · have hbs := hbw.size
        have hzz := HZ.out
        have hsa : (w'.alloc (.cells #[.int .i8 0, .slice none 0 0] 25)).heap.size = w'.heap.size + 1 := by simp
        have hba : Below w'.heap.size w' (w'.alloc (.cells #[.int .i8 0, .slice none 0 0] 25)) := (Below.refl _ _).alloc (Nat.le_refl _) _
        have hnew := heap_new w' (.cells #[.int .i8 0, .slice none 0 0] 25)
        exact ⟨pd hdf, ps hsz, KX hx, w'.heap.size, Z2, Gl, ml, cl, Gr, mr, cr, K1 y0, K1 y1, K1 y2, K1 y3, K1 y4, (kF y5 (fun q => ⟨pn q.1, q.2.1, (Ck.Ly.later (Ck.Ly.weak q.2.2.1 (fun b hl hq => ⟨hq.1, Nat.ne_of_lt hl, hq.2.2⟩)) hba), (Ck.Ly.later (Ck.Ly.weak q.2.2.2 (fun b hl hq => ⟨hq.1, Nat.ne_of_lt hl, hq.2.2⟩)) hba)⟩)), K1 y6, K1 y7, K1 y8, (fun _ => ⟨pS hsz, hbs, (by omega), ⟨_, _, hnew⟩⟩), (kF y10 (fun q => ⟨pn q.1, q.2.1, (by omega), (eh_old q.2.2.2)⟩)), KN y11, K1 y12, ⟨(by omega), .inr hbs⟩, ⟨(by omega), hZZ2⟩, hbw.alloc hbw.size _⟩
    · obtain rfl := SI ho
      refine wpOp_at ho rfl (wp_value2 10 rfl (v := .pointer (some ⟨w'.heap.size, 0, none⟩)) (w2 := w'.alloc (.cells #[.int .i8 0, .slice none 0 0] 25)) ?_ ?_)
      · exact EV
      · have hbs := hbw.size
        have hzz := HZ.out
        have hsa : (w'.alloc (.cells #[.int .i8 0, .slice none 0 0] 25)).heap.size = w'.heap.size + 1 := by simp
        have hba : Below w'.heap.size w' (w'.alloc (.cells #[.int .i8 0, .slice none 0 0] 25)) := (Below.refl _ _).alloc (Nat.le_refl _) _
        have hnew := heap_new w' (.cells #[.int .i8 0, .slice none 0 0] 25)
        exact ⟨pd hdf, ps hsz, KX hx, Z1, w'.heap.size, Gl, ml, cl, Gr, mr, cr, K1 y0, K1 y1, K1 y2, K1 y3, K1 y4, (kF y5 (fun q => ⟨pn q.1, q.2.1, (Ck.Ly.later (Ck.Ly.weak q.2.2.1 (fun b hl hq => ⟨hq.1, hq.2.1, Nat.ne_of_lt hl⟩)) hba), (Ck.Ly.later (Ck.Ly.weak q.2.2.2 (fun b hl hq => ⟨hq.1, hq.2.1, Nat.ne_of_lt hl⟩)) hba)⟩)), K1 y6, K1 y7, K1 y8, (kF y9 (fun q => ⟨pn q.1, q.2.1, (by omega), (eh_old q.2.2.2)⟩)), (fun _ => ⟨pS hsz, hbs, (by omega), ⟨_, _, hnew⟩⟩), K1 y11, KN y12, ⟨(by omega), hZZ1⟩, ⟨(by omega), .inr hbs⟩, hbw.alloc hbw.size _⟩
    · obtain rfl := SI ho
      have v9 := hpv hp 9 (by simp)
      have ww9 := (y9 v9).1
      have v7 := hpv hp 7 (by simp)
      have ww7 := (y7 v7).1
      have hne := ((y9 v9).2.2.1)
      have hlo := ((y9 v9).2.1)
      obtain ⟨u0, u1, hbox⟩ := ((y9 v9).2.2.2)
      obtain ⟨bc0, bc1, bf0, bf1, -⟩ := own2 hbox
      refine wpOp_at ho rfl (wp_store rfl (w2 := (w'.setCell ⟨Z1, 0, none⟩ (.int .i8 (rv.D.asl 4 a).1)).setCell ⟨Z1, 1, none⟩ (.slice Gl ml cl)) ?_ ?_)
      · exact EV
      · have hsa : ((w'.setCell ⟨Z1, 0, none⟩ (.int .i8 (rv.D.asl 4 a).1)).setCell ⟨Z1, 1, none⟩ (.slice Gl ml cl)).heap.size = w'.heap.size := by simp
        have hbs := hbw.size
        have hzz := HZ.out
        exact ⟨hdf, hsz, hx, Z1, Z2, Gl, ml, cl, Gr, mr, cr, K1 y0, K1 y1, K1 y2, K1 y3, K1 y4, K1 y5, K1 y6, K1 y7, K1 y8, (kF y9 (fun q => ⟨q.1, q.2.1, q.2.2.1, (eh_set q.2.2.2)⟩)), K1 y10, (fun _ => ⟨(set_keep ((y7 v7).2)), (set_keep v9), set_two hbox _ _⟩), K1 y12, ⟨(by omega), hZZ1⟩, ⟨(by omega), hZZ2⟩, below_set2 hbw hlo _ _⟩
    · obtain rfl := SI ho
      have v10 := hpv hp 10 (by simp)
      have ww10 := (y10 v10).1
      have v8 := hpv hp 8 (by simp)
      have ww8 := (y8 v8).1
      have hne := ((y10 v10).2.2.1)
      have hlo := ((y10 v10).2.1)
      obtain ⟨u0, u1, hbox⟩ := ((y10 v10).2.2.2)
      obtain ⟨bc0, bc1, bf0, bf1, -⟩ := own2 hbox
      refine wpOp_at ho rfl (wp_store rfl (w2 := (w'.setCell ⟨Z2, 0, none⟩ (.int .i8 (rv.D.asr 4 a).1)).setCell ⟨Z2, 1, none⟩ (.slice Gr mr cr)) ?_ ?_)
      · exact EV
      · have hsa : ((w'.setCell ⟨Z2, 0, none⟩ (.int .i8 (rv.D.asr 4 a).1)).setCell ⟨Z2, 1, none⟩ (.slice Gr mr cr)).heap.size = w'.heap.size := by simp
        have hbs := hbw.size
        have hzz := HZ.out
        exact ⟨hdf, hsz, hx, Z1, Z2, Gl, ml, cl, Gr, mr, cr, K1 y0, K1 y1, K1 y2, K1 y3, K1 y4, K1 y5, K1 y6, K1 y7, K1 y8, K1 y9, (kF y10 (fun q => ⟨q.1, q.2.1, q.2.2.1, (eh_set q.2.2.2)⟩)), K1 y11, (fun _ => ⟨(set_keep ((y8 v8).2)), (set_keep v10), set_two hbox _ _⟩), ⟨(by omega), hZZ1⟩, ⟨(by omega), hZZ2⟩, below_set2 hbw hlo _ _⟩
  · rintro listed u w' t ht hu ⟨-, -, -, Z1, Z2, Gl, ml, cl, Gr, mr, cr, y0, y1, y2, y3, y4, y5, y6, y7, y8, y9, y10, y11, y12, ⟨sZ1, hZZ1⟩, ⟨sZ2, hZZ2⟩, hbw⟩ hall
    have v5 := hall 5 (by decide)
    have v9 := hall 9 (by decide)
    have v10 := hall 10 (by decide)
    have v11 := hall 11 (by decide)
    have v12 := hall 12 (by decide)
    have HBW := Lib.hid hbw
    have P1 := Lib.hid ((y5 v5).2.1)
    have LL := Lib.hid ((y5 v5).2.2.1)
    have LR := Lib.hid ((y5 v5).2.2.2)
    have eb1 := ((y9 v9).1)
    have eb2 := ((y10 v10).1)
    have HX1 := Lib.hid ((y11 v11).2.2)
    have HX2 := Lib.hid ((y12 v12).2.2)
    have HLO := Lib.hid (And.intro ((y9 v9).2.1) ((y10 v10).2.1))
    rw [hu 9 (by decide) (by decide)] at eb1
    rw [hu 10 (by decide) (by decide)] at eb2
    clear y0 y1 y2 y3 y4 y5 y6 y7 y8 y9 y10 y11 y12 v5 v9 v10 v11 v12 hall hu
    clear hbw
    simp only [over, List.setIfInBounds_toArray, List.set_cons_succ, List.set_cons_zero, eb1, eb2] at ht
    subst ht
    clear eb1 eb2
    have hz := HZ.out
    have z2 := heap_below HBW.out (heap_lt H2.out) H2.out
    obtain ⟨x0, x1, f0, f1, xl⟩ := own2 z2
    obtain ⟨u0, u1, g0, g1, ul⟩ := own2 HX1.out
    go_wp2_with fail
    have z3 := set_two z2 (.int .i8 (rv.D.asl 4 a).1) (.slice Gl ml cl)
    obtain ⟨k0, k1, -, -, -⟩ := own2 z3
    refine ⟨rfl, .agg #[.int .i8 (rv.D.asl 4 a).1, .slice Gl ml cl], by simp [results, Tryz.results77, go_sem, k0, k1], ?_⟩
    rw [HR.out, if_pos P1.out]
    exact ⟨Gl, ml, cl, rfl, (Ck.Ly.set2 LL.out (fun b hq => hq.1.ne (by omega) (by omega)) _ _).weak (fun b _ hq => hq.1.out (by omega)), below_set2 (hfrom.out _ HBW.out) (by omega) _ _⟩
set_option maxHeartbeats 1500000 in
set_option maxRecDepth 100000 in
theorem ckover_11 (rv : Cg.Rv) (Q : Nat → Prop) (h : Hd) (p : Pl) (a : Ck.T2) (Y n cap : Nat) (w : World) (hk : h.kind = 11) (hn : n = 1) (hR : Ck.Row Q w [a] Y) (hS : Shapes w) (hoka : Ty.okT a.1 a.2 = true) :
    Calls Tryz.prog 77 #[.agg #[.func (Fn.func rv.fr) #[] rv.cpt, .func (Fn.func rv.fa) #[] #[], .func (Fn.func rv.fm) #[] #[], .func (Fn.func rv.ft) #[] #[], rv.vg], .agg #[.int .i8 h.kind, .string h.name, .string h.arg, .int .i64 h.num, .int .i8 h.tk, .slice p.TA p.tn p.tc, .int .i8 h.uk, .slice p.UA p.un p.uc, .int .i64 h.label, .int .i64 h.pos, .slice p.A p.n p.c], .slice (some ⟨Y, 0, none⟩) n cap] w (Ck.Post Q w (Cg.over rv.D h a (0, .nil) (0, .nil))) := by
  rw [Cg.over_11 _ _ _ _ _ hk]
  obtain ⟨Ga, ma, ca, a0, a1, aL⟩ := hR.cell 0 a rfl
  obtain ⟨w1, hw1, hB3, h0, h1, h2, hz⟩ := boxes3 w (.cells #[.func (Fn.func rv.fr) #[] rv.cpt, .func (Fn.func rv.fa) #[] #[], .func (Fn.func rv.fm) #[] #[], .func (Fn.func rv.ft) #[] #[], rv.vg] 47) (.cells #[.int .i8 h.kind, .string h.name, .string h.arg, .int .i64 h.num, .int .i8 h.tk, .slice p.TA p.tn p.tc, .int .i8 h.uk, .slice p.UA p.un p.uc, .int .i64 h.label, .int .i64 h.pos, .slice p.A p.n p.c] 28) (.cells #[.int .i8 0, .slice none 0 0] 25)
  have HW1 := Lib.hid hw1
  have HB3 := Lib.hid hB3
  have H0 := Lib.hid h0
  have H1 := Lib.hid h1
  have H2 := Lib.hid h2
  have HZ := Lib.hid hz
  have HAL : Hid (Ck.Ly (Ck.Cut Q w.heap.size (w.heap.size + 3)) w1 a Ga ma ca) := Lib.hid ((aL.weak (fun b hl hq => .inl ⟨hq, hl⟩)).later hB3)
  have HS := Lib.hid (hS.below hB3)
  have hfrom := Lib.hid (fun (W : World) (hb : Below w1.heap.size w1 W) => hB3.trans (hb.mono hB3.size))
  have HA := Lib.hid (And.intro (keep_cell a0 hB3) (keep_cell a1 hB3))
  have HK := Lib.hid (fun (W : World) (hb : Below w1.heap.size w1 W) => (show W.cell? ⟨w.heap.size, 0, none⟩ = some (.func (Fn.func rv.fr) #[] rv.cpt) ∧ W.cell? ⟨w.heap.size, 1, none⟩ = some (.func (Fn.func rv.fa) #[] #[]) ∧ W.cell? ⟨w.heap.size, 2, none⟩ = some (.func (Fn.func rv.fm) #[] #[]) ∧ W.cell? ⟨w.heap.size, 3, none⟩ = some (.func (Fn.func rv.ft) #[] #[]) ∧ W.cell? ⟨w.heap.size, 4, none⟩ = some rv.vg ∧ W.cell? ⟨w.heap.size + 1, 0, none⟩ = some (.int .i8 h.kind) ∧ W.cell? ⟨w.heap.size + 1, 1, none⟩ = some (.string h.name) ∧ W.cell? ⟨w.heap.size + 1, 2, none⟩ = some (.string h.arg) ∧ W.cell? ⟨w.heap.size + 1, 3, none⟩ = some (.int .i64 h.num) ∧ W.cell? ⟨w.heap.size + 1, 4, none⟩ = some (.int .i8 h.tk) ∧ W.cell? ⟨w.heap.size + 1, 5, none⟩ = some (.slice p.TA p.tn p.tc) ∧ W.cell? ⟨w.heap.size + 1, 6, none⟩ = some (.int .i8 h.uk) ∧ W.cell? ⟨w.heap.size + 1, 7, none⟩ = some (.slice p.UA p.un p.uc) ∧ W.cell? ⟨w.heap.size + 1, 8, none⟩ = some (.int .i64 h.label) ∧ W.cell? ⟨w.heap.size + 1, 9, none⟩ = some (.int .i64 h.pos) ∧ W.cell? ⟨w.heap.size + 1, 10, none⟩ = some (.slice p.A p.n p.c) ∧ W.cell? ⟨Y, 0, none⟩ = some (.int .i8 a.1) ∧ W.cell? ⟨Y, 1, none⟩ = some (.slice Ga ma ca) from by
    obtain ⟨r0, r1, r2, r3, r4, -⟩ := own5 (heap_below hb (heap_lt H0.out) H0.out)
    obtain ⟨q0, q1, q2, q3, q4, q5, q6, q7, q8, q9, q10, ql⟩ := own11 (heap_below hb (heap_lt H1.out) H1.out)
    exact ⟨r0, r1, r2, r3, r4, q0, q1, q2, q3, q4, q5, q6, q7, q8, q9, q10, keep_cell HA.out.1 hb, keep_cell HA.out.2 hb⟩))
  clear hR hS a0 a1 aL hB3 h0 h1 h2 hz
  subst hn
  have HKK := Lib.hid hk
  clear hk
  obtain ⟨R, hR⟩ : ∃ R, R = (if rv.D.asO 4 a = true then .ok (rv.D.asr 4 a) else Ck.fault h 90) := ⟨_, rfl⟩
  rw [← hR]
  have HR := Lib.hid hR
  clear hR
  go_enter Tryz.func77, Tryz.ntmps77
  go_upto_region 1 with fail
  rw [← HW1.out]
  obtain ⟨r0, r1, r2, r3, r4, q0, q1, q2, q3, q4, q5, q6, q7, q8, q9, q10, y0, y1⟩ := HK.out w1 (Below.refl _ _)
  rw [HKK.out] at q0
  clear hw1
  go_upto_region 15 with fail
  clear r0 r1 r2 r3 r4 q0 q1 q2 q3 q4 q5 q6 q7 q8 q9 q10 y0 y1
  refine region_inv_end2 170 rfl [75, 76, 77, 78, 79, 80, 74, 81, 82, 11, 12] (by kernel_rfl) (by kernel_rfl) (by kernel_rfl) (fun listed a' w' => a'.defers = [] ∧ a'.tmps.size = 170 ∧ (a'.eval (.tmp 2) = .slice (some ⟨Y, 0, none⟩) 1 cap ∧ a'.eval (.tmp 3) = .pointer (some ⟨w.heap.size, 0, none⟩) ∧ a'.eval (.tmp 4) = .pointer (some ⟨w.heap.size + 1, 0, none⟩) ∧ a'.eval (.tmp 6) = .pointer (some ⟨w.heap.size + 1 + 1, 0, none⟩)) ∧ ∃ Z1 Z2 Gl ml cl Gr mr cr, (listed[0]? = some true → (a'.eval (.tmp 75) = .agg #[.func (Fn.func rv.fr) #[] rv.cpt, .func (Fn.func rv.fa) #[] #[], .func (Fn.func rv.fm) #[] #[], .func (Fn.func rv.ft) #[] #[], rv.vg])) ∧ (listed[1]? = some true → (a'.eval (.tmp 76) = .agg #[.int .i8 h.kind, .string h.name, .string h.arg, .int .i64 h.num, .int .i8 h.tk, .slice p.TA p.tn p.tc, .int .i8 h.uk, .slice p.UA p.un p.uc, .int .i64 h.label, .int .i64 h.pos, .slice p.A p.n p.c])) ∧ (listed[2]? = some true → (a'.eval (.tmp 77) = .slice (some ⟨Y, 0, none⟩) 1 cap)) ∧ (listed[3]? = some true → (a'.eval (.tmp 78) = .pointer (some ⟨Y, 0, none⟩))) ∧ (listed[4]? = some true → (a'.eval (.tmp 79) = .agg #[.int .i8 a.1, .slice Ga ma ca])) ∧ (listed[5]? = some true → (a'.eval (.tmp 80) = .tuple #[.agg #[.int .i8 (rv.D.asl 4 a).1, .slice Gl ml cl], .agg #[.int .i8 (rv.D.asr 4 a).1, .slice Gr mr cr]]) ∧ (rv.D.asO 4 a = true) ∧ (Ck.Ly (fun b => Ck.Cut Q w.heap.size (w.heap.size + 3) b ∧ b ≠ Z1 ∧ b ≠ Z2) w' (rv.D.asl 4 a) Gl ml cl) ∧ (Ck.Ly (fun b => Ck.Cut Q w.heap.size (w.heap.size + 3) b ∧ b ≠ Z1 ∧ b ≠ Z2) w' (rv.D.asr 4 a) Gr mr cr)) ∧ (listed[6]? = some true → (a'.eval (.tmp 74) = .tuple #[.agg #[.int .i8 (rv.D.asl 4 a).1, .slice Gl ml cl], .agg #[.int .i8 (rv.D.asr 4 a).1, .slice Gr mr cr]]) ∧ (listed[5]? = some true)) ∧ (listed[7]? = some true → (a'.eval (.tmp 81) = .agg #[.int .i8 (rv.D.asl 4 a).1, .slice Gl ml cl]) ∧ (listed[5]? = some true)) ∧ (listed[8]? = some true → (a'.eval (.tmp 82) = .agg #[.int .i8 (rv.D.asr 4 a).1, .slice Gr mr cr]) ∧ (listed[5]? = some true)) ∧ (listed[9]? = some true → (a'.eval (.tmp 11) = .pointer (some ⟨Z1, 0, none⟩)) ∧ (w1.heap.size ≤ Z1) ∧ (Z1 ≠ Z2) ∧ (∃ u0 u1, w'.heap[Z1]? = some (.cells #[u0, u1] 25 (0, 0)))) ∧ (listed[10]? = some true → (a'.eval (.tmp 12) = .pointer (some ⟨Z2, 0, none⟩)) ∧ (w1.heap.size ≤ Z2) ∧ (Z1 ≠ Z2) ∧ (∃ u0 u1, w'.heap[Z2]? = some (.cells #[u0, u1] 25 (0, 0)))) ∧ (listed[11]? = some true → (listed[5]? = some true) ∧ (listed[9]? = some true) ∧ (w'.heap[Z1]? = some (.cells #[.int .i8 (rv.D.asl 4 a).1, .slice Gl ml cl] 25 (0, 0)))) ∧ (listed[12]? = some true → (listed[5]? = some true) ∧ (listed[10]? = some true) ∧ (w'.heap[Z2]? = some (.cells #[.int .i8 (rv.D.asr 4 a).1, .slice Gr mr cr] 25 (0, 0)))) ∧ (Z1 < w'.heap.size ∧ (Z1 = w.heap.size + 2 ∨ w1.heap.size ≤ Z1)) ∧ (Z2 < w'.heap.size ∧ (Z2 = w.heap.size + 2 ∨ w1.heap.size ≤ Z2)) ∧ Below w1.heap.size w1 w') (fun _ _ _ h => h.1) ?_ ?_ ?_
  · have hz := HZ.out
    refine ⟨rfl, rfl, ⟨rfl, rfl, rfl, rfl⟩, (w.heap.size + 2), (w.heap.size + 2), none, 0, 0, none, 0, 0, FH, FH, FH, FH, FH, FH, FH, FH, FH, FH, FH, FH, FH, ⟨(Nat.lt_of_lt_of_le (by omega) (show Below w1.heap.size w1 w1.drew from (Below.refl _ _).drew).size), .inl rfl⟩, ⟨(Nat.lt_of_lt_of_le (by omega) (show Below w1.heap.size w1 w1.drew from (Below.refl _ _).drew).size), .inl rfl⟩, (Below.refl _ _).drew⟩
  · rintro listed a' w' i o ⟨hdf, hsz, hx, Z1, Z2, Gl, ml, cl, Gr, mr, cr, y0, y1, y2, y3, y4, y5, y6, y7, y8, y9, y10, y11, y12, ⟨sZ1, hZZ1⟩, ⟨sZ2, hZZ2⟩, hbw⟩ hz hsz0 ho hi hp
    have hi13 : i < 13 := by
      rcases Nat.lt_or_ge i 13 with q | q
      · exact q
      · rw [Array.getElem?_eq_none (by simpa using q)] at ho; cases ho
    rcases (by omega : i = 0 ∨ i = 1 ∨ i = 2 ∨ i = 3 ∨ i = 4 ∨ i = 5 ∨ i = 6 ∨ i = 7 ∨ i = 8 ∨ i = 9 ∨ i = 10 ∨ i = 11 ∨ i = 12) with rfl | rfl | rfl | rfl | rfl | rfl | rfl | rfl | rfl | rfl | rfl | rfl | rfl
    · obtain rfl := SI ho
      obtain ⟨c0, c1, c2, c3, c4, c5, c6, c7, c8, c9, c10, c11, c12, c13, c14, c15, c16, c17⟩ := HK.out w' hbw
      exact V_ ho 75 ⟨pd hdf, ps hsz, KX hx, Z1, Z2, Gl, ml, cl, Gr, mr, cr, (fun _ => pS hsz), K1 y1, K1 y2, K1 y3, K1 y4, K1 y5, K1 y6, K1 y7, K1 y8, K1 y9, K1 y10, K1 y11, K1 y12, ⟨sZ1, hZZ1⟩, ⟨sZ2, hZZ2⟩, hbw⟩
    · obtain rfl := SI ho
      obtain ⟨c0, c1, c2, c3, c4, c5, c6, c7, c8, c9, c10, c11, c12, c13, c14, c15, c16, c17⟩ := HK.out w' hbw
      exact V_ ho 76 ⟨pd hdf, ps hsz, KX hx, Z1, Z2, Gl, ml, cl, Gr, mr, cr, K1 y0, (fun _ => pS hsz), K1 y2, K1 y3, K1 y4, K1 y5, K1 y6, K1 y7, K1 y8, K1 y9, K1 y10, K1 y11, K1 y12, ⟨sZ1, hZZ1⟩, ⟨sZ2, hZZ2⟩, hbw⟩
    · obtain rfl := SI ho
      exact V_ ho 77 ⟨pd hdf, ps hsz, KX hx, Z1, Z2, Gl, ml, cl, Gr, mr, cr, K1 y0, K1 y1, (fun _ => pS hsz), K1 y3, K1 y4, K1 y5, K1 y6, K1 y7, K1 y8, K1 y9, K1 y10, K1 y11, K1 y12, ⟨sZ1, hZZ1⟩, ⟨sZ2, hZZ2⟩, hbw⟩
    · obtain rfl := SI ho
      have v2 := hpv hp 2 (by simp)
      have ww2 := (y2 v2)
      exact V_ ho 78 ⟨pd hdf, ps hsz, KX hx, Z1, Z2, Gl, ml, cl, Gr, mr, cr, K1 y0, K1 y1, K1 y2, (fun _ => pS hsz), K1 y4, K1 y5, K1 y6, K1 y7, K1 y8, K1 y9, K1 y10, K1 y11, K1 y12, ⟨sZ1, hZZ1⟩, ⟨sZ2, hZZ2⟩, hbw⟩
    · obtain rfl := SI ho
      have v3 := hpv hp 3 (by simp)
      have ww3 := (y3 v3)
      obtain ⟨c0, c1, c2, c3, c4, c5, c6, c7, c8, c9, c10, c11, c12, c13, c14, c15, c16, c17⟩ := HK.out w' hbw
      exact V_ ho 79 ⟨pd hdf, ps hsz, KX hx, Z1, Z2, Gl, ml, cl, Gr, mr, cr, K1 y0, K1 y1, K1 y2, K1 y3, (fun _ => pS hsz), K1 y5, K1 y6, K1 y7, K1 y8, K1 y9, K1 y10, K1 y11, K1 y12, ⟨sZ1, hZZ1⟩, ⟨sZ2, hZZ2⟩, hbw⟩
    · obtain rfl := SI ho
      have v0 := hpv hp 0 (by simp)
      have ww0 := (y0 v0)
      have v1 := hpv hp 1 (by simp)
      have ww1 := (y1 v1)
      have v4 := hpv hp 4 (by simp)
      have ww4 := (y4 v4)
      refine M_ ho 80 (ckparts_any rv (fun b => Ck.Cut Q w.heap.size (w.heap.size + 3) b ∧ b ≠ Z1 ∧ b ≠ Z2) h p 4 a Ga ma ca w' (by decide) (Ck.Ly.later (Ck.Ly.weak HAL.out (fun b hl hq => ⟨hq, zne_of (Nat.le_of_eq HZ.out.symm) hZZ1 hl hq, zne_of (Nat.le_of_eq HZ.out.symm) hZZ2 hl hq⟩)) hbw) hoka (HS.out.below hbw)) fun e u hg => ?_
      · rcases hg with ⟨hq, hg⟩ | ⟨hq, hg⟩
        · have HP : Ck.Post Q w R e u := by rw [HR.out, if_neg (ne_of_false (show rv.D.asO 4 a = false from hq))]; exact Ck.Gave.from hg (hfrom.out w' hbw)
          obtain ⟨g, rfl, hg2⟩ := hg
          exact .inr ⟨_, rfl, hdf, HP⟩
        · obtain ⟨Gl', ml', cl', Gr', mr', cr', rfl, hl, hl2, hb⟩ := hg
          refine .inl ?_
          refine ⟨.tuple #[.agg #[.int .i8 (rv.D.asl 4 a).1, .slice Gl' ml' cl'], .agg #[.int .i8 (rv.D.asr 4 a).1, .slice Gr' mr' cr']], rfl, ?_⟩
          have hbs := hbw.size
          have hzz := HZ.out
          have hbs2 := hb.size
          exact ⟨pd hdf, ps hsz, KX hx, Z1, Z2, Gl', ml', cl', Gr', mr', cr', K1 y0, K1 y1, K1 y2, K1 y3, K1 y4, (fun _ => ⟨pS hsz, hq, Ck.Ly.weak hl (fun b _ hq => cutz2_in (by omega) (by omega) (by omega) hq), Ck.Ly.weak hl2 (fun b _ hq => cutz2_in (by omega) (by omega) (by omega) hq)⟩), KN y6, KN y7, KN y8, K1 y9, K1 y10, KN y11, KN y12, ⟨(by omega), hZZ1⟩, ⟨(by omega), hZZ2⟩, hbw.trans (hb.mono hbw.size)⟩
    · obtain rfl := SI ho
      have v5 := hpv hp 5 (by simp)
      have ww5 := (y5 v5).1
      exact V_ ho 74 ⟨pd hdf, ps hsz, KX hx, Z1, Z2, Gl, ml, cl, Gr, mr, cr, K1 y0, K1 y1, K1 y2, K1 y3, K1 y4, K1 y5, (fun _ => ⟨pS hsz, (set_keep v5)⟩), K1 y7, K1 y8, K1 y9, K1 y10, K1 y11, K1 y12, ⟨sZ1, hZZ1⟩, ⟨sZ2, hZZ2⟩, hbw⟩
    · obtain rfl := SI ho
      have v6 := hpv hp 6 (by simp)
      have ww6 := (y6 v6).1
      exact V_ ho 81 ⟨pd hdf, ps hsz, KX hx, Z1, Z2, Gl, ml, cl, Gr, mr, cr, K1 y0, K1 y1, K1 y2, K1 y3, K1 y4, K1 y5, K1 y6, (fun _ => ⟨pS hsz, (set_keep ((y6 v6).2))⟩), K1 y8, K1 y9, K1 y10, K1 y11, K1 y12, ⟨sZ1, hZZ1⟩, ⟨sZ2, hZZ2⟩, hbw⟩
    · obtain rfl := SI ho
      have v6 := hpv hp 6 (by simp)
      have ww6 := (y6 v6).1
      exact V_ ho 82 ⟨pd hdf, ps hsz, KX hx, Z1, Z2, Gl, ml, cl, Gr, mr, cr, K1 y0, K1 y1, K1 y2, K1 y3, K1 y4, K1 y5, K1 y6, K1 y7, (fun _ => ⟨pS hsz, (set_keep ((y6 v6).2))⟩), K1 y9, K1 y10, K1 y11, K1 y12, ⟨sZ1, hZZ1⟩, ⟨sZ2, hZZ2⟩, hbw⟩
    · obtain rfl := SI ho
      refine wpOp_at ho rfl (wp_value2 11 rfl (v := .pointer (some ⟨w'.heap.size, 0, none⟩)) (w2 := w'.alloc (.cells #[.int .i8 0, .slice none 0 0] 25)) ?_ ?_)
      · exact EV
      · have hbs := hbw.size
        have hzz := HZ.out
        have hsa : (w'.alloc (.cells #[.int .i8 0, .slice none 0 0] 25)).heap.size = w'.heap.size + 1 := by simp
        have hba : Below w'.heap.size w' (w'.alloc (.cells #[.int .i8 0, .slice none 0 0] 25)) := (Below.refl _ _).alloc (Nat.le_refl _) _
        have hnew := heap_new w' (.cells #[.int .i8 0, .slice none 0 0] 25)
        exact ⟨pd hdf, ps hsz, KX hx, w'.heap.size, Z2, Gl, ml, cl, Gr, mr, cr, K1 y0, K1 y1, K1 y2, K1 y3, K1 y4, (kF y5 (fun q => ⟨pn q.1, q.2.1, (Ck.Ly.later (Ck.Ly.weak q.2.2.1 (fun b hl hq => ⟨hq.1, Nat.ne_of_lt hl, hq.2.2⟩)) hba), (Ck.Ly.later (Ck.Ly.weak q.2.2.2 (fun b hl hq => ⟨hq.1, Nat.ne_of_lt hl, hq.2.2⟩)) hba)⟩)), K1 y6, K1 y7, K1 y8, (fun _ => ⟨pS hsz, hbs, (by omega), ⟨_, _, hnew⟩⟩), (kF y10 (fun q => ⟨pn q.1, q.2.1, (by omega), (eh_old q.2.2.2)⟩)), KN y11, K1 y12, ⟨(by omega), .inr hbs⟩, ⟨(by omega), hZZ2⟩, hbw.alloc hbw.size _⟩
    · obtain rfl := SI ho
      refine wpOp_at ho rfl (wp_value2 12 rfl (v := .pointer (some ⟨w'.heap.size, 0, none⟩)) (w2 := w'.alloc (.cells #[.int .i8 0, .slice none 0 0] 25)) ?_ ?_)
      · exact EV
      · have hbs := hbw.size
        have hzz := HZ.out
        have hsa : (w'.alloc (.cells #[.int .i8 0, .slice none 0 0] 25)).heap.size = w'.heap.size + 1 := by simp
        have hba : Below w'.heap.size w' (w'.alloc (.cells #[.int .i8 0, .slice none 0 0] 25)) := (Below.refl _ _).alloc (Nat.le_refl _) _
        have hnew := heap_new w' (.cells #[.int .i8 0, .slice none 0 0] 25)
        exact ⟨pd hdf, ps hsz, KX hx, Z1, w'.heap.size, Gl, ml, cl, Gr, mr, cr, K1 y0, K1 y1, K1 y2, K1 y3, K1 y4, (kF y5 (fun q => ⟨pn q.1, q.2.1, (Ck.Ly.later (Ck.Ly.weak q.2.2.1 (fun b hl hq => ⟨hq.1, hq.2.1, Nat.ne_of_lt hl⟩)) hba), (Ck.Ly.later (Ck.Ly.weak q.2.2.2 (fun b hl hq => ⟨hq.1, hq.2.1, Nat.ne_of_lt hl⟩)) hba)⟩)), K1 y6, K1 y7, K1 y8, (kF y9 (fun q => ⟨pn q.1, q.2.1, (by omega), (eh_old q.2.2.2)⟩)), (fun _ => ⟨pS hsz, hbs, (by omega), ⟨_, _, hnew⟩⟩), K1 y11, KN y12, ⟨(by omega), hZZ1⟩, ⟨(by omega), .inr hbs⟩, hbw.alloc hbw.size _⟩
    · obtain rfl := SI ho
      have v9 := hpv hp 9 (by simp)
      have ww9 := (y9 v9).1
      have v7 := hpv hp 7 (by simp)
      have ww7 := (y7 v7).1
      have hne := ((y9 v9).2.2.1)
      have hlo := ((y9 v9).2.1)
      obtain ⟨u0, u1, hbox⟩ := ((y9 v9).2.2.2)
      obtain ⟨bc0, bc1, bf0, bf1, -⟩ := own2 hbox
      refine wpOp_at ho rfl (wp_store rfl (w2 := (w'.setCell ⟨Z1, 0, none⟩ (.int .i8 (rv.D.asl 4 a).1)).setCell ⟨Z1, 1, none⟩ (.slice Gl ml cl)) ?_ ?_)
      · exact EV
      · have hsa : ((w'.setCell ⟨Z1, 0, none⟩ (.int .i8 (rv.D.asl 4 a).1)).setCell ⟨Z1, 1, none⟩ (.slice Gl ml cl)).heap.size = w'.heap.size := by simp
        have hbs := hbw.size
        have hzz := HZ.out
        exact ⟨hdf, hsz, hx, Z1, Z2, Gl, ml, cl, Gr, mr, cr, K1 y0, K1 y1, K1 y2, K1 y3, K1 y4, K1 y5, K1 y6, K1 y7, K1 y8, (kF y9 (fun q => ⟨q.1, q.2.1, q.2.2.1, (eh_set q.2.2.2)⟩)), K1 y10, (fun _ => ⟨(set_keep ((y7 v7).2)), (set_keep v9), set_two hbox _ _⟩), K1 y12, ⟨(by omega), hZZ1⟩, ⟨(by omega), hZZ2⟩, below_set2 hbw hlo _ _⟩
    · obtain rfl := SI ho
      have v10 := hpv hp 10 (by simp)
      have ww10 := (y10 v10).1
      have v8 := hpv hp 8 (by simp)
      have ww8 := (y8 v8).1
      have hne := ((y10 v10).2.2.1)
      have hlo := ((y10 v10).2.1)
      obtain ⟨u0, u1, hbox⟩ := ((y10 v10).2.2.2)
      obtain ⟨bc0, bc1, bf0, bf1, -⟩ := own2 hbox
      refine wpOp_at ho rfl (wp_store rfl (w2 := (w'.setCell ⟨Z2, 0, none⟩ (.int .i8 (rv.D.asr 4 a).1)).setCell ⟨Z2, 1, none⟩ (.slice Gr mr cr)) ?_ ?_)
      · exact EV
      · have hsa : ((w'.setCell ⟨Z2, 0, none⟩ (.int .i8 (rv.D.asr 4 a).1)).setCell ⟨Z2, 1, none⟩ (.slice Gr mr cr)).heap.size = w'.heap.size := by simp
        have hbs := hbw.size
        have hzz := HZ.out
        exact ⟨hdf, hsz, hx, Z1, Z2, Gl, ml, cl, Gr, mr, cr, K1 y0, K1 y1, K1 y2, K1 y3, K1 y4, K1 y5, K1 y6, K1 y7, K1 y8, K1 y9, (kF y10 (fun q => ⟨q.1, q.2.1, q.2.2.1, (eh_set q.2.2.2)⟩)), K1 y11, (fun _ => ⟨(set_keep ((y8 v8).2)), (set_keep v10), set_two hbox _ _⟩), ⟨(by omega), hZZ1⟩, ⟨(by omega), hZZ2⟩, below_set2 hbw hlo _ _⟩
  · rintro listed u w' t ht hu ⟨-, -, -, Z1, Z2, Gl, ml, cl, Gr, mr, cr, y0, y1, y2, y3, y4, y5, y6, y7, y8, y9, y10, y11, y12, ⟨sZ1, hZZ1⟩, ⟨sZ2, hZZ2⟩, hbw⟩ hall
    have v5 := hall 5 (by decide)
    have v9 := hall 9 (by decide)
    have v10 := hall 10 (by decide)
    have v11 := hall 11 (by decide)
    have v12 := hall 12 (by decide)
    have HBW := Lib.hid hbw
    have P1 := Lib.hid ((y5 v5).2.1)
    have LL := Lib.hid ((y5 v5).2.2.1)
    have LR := Lib.hid ((y5 v5).2.2.2)
    have eb1 := ((y9 v9).1)
    have eb2 := ((y10 v10).1)
    have HX1 := Lib.hid ((y11 v11).2.2)
    have HX2 := Lib.hid ((y12 v12).2.2)
    have HLO := Lib.hid (And.intro ((y9 v9).2.1) ((y10 v10).2.1))
    rw [hu 11 (by decide) (by decide)] at eb1
    rw [hu 12 (by decide) (by decide)] at eb2
    clear y0 y1 y2 y3 y4 y5 y6 y7 y8 y9 y10 y11 y12 v5 v9 v10 v11 v12 hall hu
    clear hbw
    simp only [over, List.setIfInBounds_toArray, List.set_cons_succ, List.set_cons_zero, eb1, eb2] at ht
    subst ht
    clear eb1 eb2
    have hz := HZ.out
    have z2 := heap_below HBW.out (heap_lt H2.out) H2.out
    obtain ⟨x0, x1, f0, f1, xl⟩ := own2 z2
    obtain ⟨u0, u1, g0, g1, ul⟩ := own2 HX2.out
    go_wp2_with fail
    have z3 := set_two z2 (.int .i8 (rv.D.asr 4 a).1) (.slice Gr mr cr)
    obtain ⟨k0, k1, -, -, -⟩ := own2 z3
    refine ⟨rfl, .agg #[.int .i8 (rv.D.asr 4 a).1, .slice Gr mr cr], by simp [results, Tryz.results77, go_sem, k0, k1], ?_⟩
    rw [HR.out, if_pos P1.out]
    exact ⟨Gr, mr, cr, rfl, (Ck.Ly.set2 LR.out (fun b hq => hq.1.ne (by omega) (by omega)) _ _).weak (fun b _ hq => hq.1.out (by omega)), below_set2 (hfrom.out _ HBW.out) (by omega) _ _⟩

end Go.Proofs.YtknhoagicdfikaaGreatDoor
