import Derived.Test.YtgjemmmbnpkamaaGreatDoorM28
namespace Go.Proofs.YtgjemmmbnpkamaaGreatDoor
set_option maxHeartbeats 1500000
set_option maxRecDepth 100000
open Go.RowKit
theorem zCu (rv : Cg.Rv) (Q : Nat → Prop) (h : Hd) (p : Pl) (a : Ck.T2) (Y n cap : Nat) (w : World) (hk : h.kind = 10) (hn : n = 1) (hR : Ck.Row Q w [a] Y) (hS : Shapes w) (hoka : Ty.okT a.1 a.2 = true) :
    Calls Tryz.prog 104 #[.agg (rF_ rv), .agg (tC_ h p), .slice (some ⟨Y, 0, none⟩) n cap] w (Ck.Post Q w (Cg.over rv.D h a (0, .nil) (0, .nil))) := by
  try unfold tC_
  try unfold rF_
  rw [Cg.zBn _ _ _ _ _ hk]
  obtain ⟨Ga, ma, ca, a0, a1, aL⟩ := hR.cell 0 a rfl
  obtain ⟨w1, hw1, hB3, h0, h1, h2, hz⟩ := qN w (.cells (rF_ rv) 56) (.cells (tC_ h p) 28) (.cells #[.int .i8 0, .slice none 0 0] 25)
  have HW1 := k0_ hw1
  have HB3 := k0_ hB3
  have H0 := k0_ h0
  have H1 := k0_ h1
  have H2 := k0_ h2
  have HZ := k0_ hz
  have HAL : Hid (Ck.Ly (Ck.Cut Q w.heap.size (w.heap.size + 3)) w1 a Ga ma ca) := k0_ ((aL.weak (fun b hl hq => .inl ⟨hq, hl⟩)).later hB3)
  have HS := k0_ (hS.below hB3)
  have hfrom := k0_ (fun (W : World) (hb : Below w1.heap.size w1 W) => hB3.trans (hb.mono hB3.size))
  have HA := k0_ (And.intro (zB a0 hB3) (zB a1 hB3))
  have HK := k0_ (fun (W : World) (hb : Below w1.heap.size w1 W) => (show W.cell? ⟨w.heap.size, 0, none⟩ = some (.func (Fn.func rv.fr) #[] rv.cpt) ∧ W.cell? ⟨w.heap.size, 1, none⟩ = some (.func (Fn.func rv.fa) #[] #[]) ∧ W.cell? ⟨w.heap.size, 2, none⟩ = some (.func (Fn.func rv.fm) #[] #[]) ∧ W.cell? ⟨w.heap.size, 3, none⟩ = some (.func (Fn.func rv.ft) #[] #[]) ∧ W.cell? ⟨w.heap.size, 4, none⟩ = some rv.vg ∧ W.cell? ⟨w.heap.size + 1, 0, none⟩ = some (.int .i8 h.kind) ∧ W.cell? ⟨w.heap.size + 1, 1, none⟩ = some (.string h.name) ∧ W.cell? ⟨w.heap.size + 1, 2, none⟩ = some (.string h.arg) ∧ W.cell? ⟨w.heap.size + 1, 3, none⟩ = some (.int .i64 h.num) ∧ W.cell? ⟨w.heap.size + 1, 4, none⟩ = some (.int .i8 h.tk) ∧ W.cell? ⟨w.heap.size + 1, 5, none⟩ = some (.slice p.TA p.tn p.tc) ∧ W.cell? ⟨w.heap.size + 1, 6, none⟩ = some (.int .i8 h.uk) ∧ W.cell? ⟨w.heap.size + 1, 7, none⟩ = some (.slice p.UA p.un p.uc) ∧ W.cell? ⟨w.heap.size + 1, 8, none⟩ = some (.int .i64 h.label) ∧ W.cell? ⟨w.heap.size + 1, 9, none⟩ = some (.int .i64 h.pos) ∧ W.cell? ⟨w.heap.size + 1, 10, none⟩ = some (.slice p.A p.n p.c) ∧ W.cell? ⟨Y, 0, none⟩ = some (.int .i8 a.1) ∧ W.cell? ⟨Y, 1, none⟩ = some (.slice Ga ma ca) from by
    obtain ⟨r0, r1, r2, r3, r4, -⟩ := jI (zC hb (zD H0.out) H0.out)
    obtain ⟨q0, q1, q2, q3, q4, q5, q6, q7, q8, q9, q10, ql⟩ := zN (zC hb (zD H1.out) H1.out)
    exact ⟨r0, r1, r2, r3, r4, q0, q1, q2, q3, q4, q5, q6, q7, q8, q9, q10, zB HA.out.1 hb, zB HA.out.2 hb⟩))
  clear hR hS a0 a1 aL hB3 h0 h1 h2 hz
  subst hn
  have HKK := k0_ hk
  clear hk
  obtain ⟨R, hR⟩ : ∃ R, R = (if rv.D.asO 4 a = true then .ok (rv.D.asl 4 a) else Ck.fault h 90) := ⟨_, rfl⟩
  rw [← hR]
  have HR := k0_ hR
  clear hR
  go_enter Tryz.func104, Tryz.ntmps104
  go_upto_region 1 with fail
  rw [← HW1.out]
  obtain ⟨r0, r1, r2, r3, r4, q0, q1, q2, q3, q4, q5, q6, q7, q8, q9, q10, y0, y1⟩ := HK.out w1 (Below.refl _ _)
  rw [HKK.out] at q0
  clear hw1
  go_upto_region 12 with fail
  clear r0 r1 r2 r3 r4 q0 q1 q2 q3 q4 q5 q6 q7 q8 q9 q10 y0 y1
  refine zO 170 rfl [63, 64, 65, 66, 67, 68, 62, 69, 70, 9, 10] (by kernel_rfl) (by kernel_rfl) (by kernel_rfl) (fun listed a' w' => a'.defers = [] ∧ a'.tmps.size = 170 ∧ (a'.eval (.tmp 2) = .slice (some ⟨Y, 0, none⟩) 1 cap ∧ a'.eval (.tmp 3) = .pointer (some ⟨w.heap.size, 0, none⟩) ∧ a'.eval (.tmp 4) = .pointer (some ⟨w.heap.size + 1, 0, none⟩) ∧ a'.eval (.tmp 6) = .pointer (some ⟨w.heap.size + 1 + 1, 0, none⟩)) ∧ ∃ Z1 Z2 Gl ml cl Gr mr cr, (listed[0]? = some true → (a'.eval (.tmp 63) = .agg (rF_ rv))) ∧ (listed[1]? = some true → (a'.eval (.tmp 64) = .agg (tC_ h p))) ∧ (listed[2]? = some true → (a'.eval (.tmp 65) = .slice (some ⟨Y, 0, none⟩) 1 cap)) ∧ (listed[3]? = some true → (a'.eval (.tmp 66) = .pointer (some ⟨Y, 0, none⟩))) ∧ (listed[4]? = some true → (a'.eval (.tmp 67) = .agg #[.int .i8 a.1, .slice Ga ma ca])) ∧ (listed[5]? = some true → (a'.eval (.tmp 68) = .tuple #[.agg #[.int .i8 (rv.D.asl 4 a).1, .slice Gl ml cl], .agg #[.int .i8 (rv.D.asr 4 a).1, .slice Gr mr cr]]) ∧ (rv.D.asO 4 a = true) ∧ (Ck.Ly (fun b => Ck.Cut Q w.heap.size (w.heap.size + 3) b ∧ b ≠ Z1 ∧ b ≠ Z2) w' (rv.D.asl 4 a) Gl ml cl) ∧ (Ck.Ly (fun b => Ck.Cut Q w.heap.size (w.heap.size + 3) b ∧ b ≠ Z1 ∧ b ≠ Z2) w' (rv.D.asr 4 a) Gr mr cr)) ∧ (listed[6]? = some true → (a'.eval (.tmp 62) = .tuple #[.agg #[.int .i8 (rv.D.asl 4 a).1, .slice Gl ml cl], .agg #[.int .i8 (rv.D.asr 4 a).1, .slice Gr mr cr]]) ∧ (listed[5]? = some true)) ∧ (listed[7]? = some true → (a'.eval (.tmp 69) = .agg #[.int .i8 (rv.D.asl 4 a).1, .slice Gl ml cl]) ∧ (listed[5]? = some true)) ∧ (listed[8]? = some true → (a'.eval (.tmp 70) = .agg #[.int .i8 (rv.D.asr 4 a).1, .slice Gr mr cr]) ∧ (listed[5]? = some true)) ∧ (listed[9]? = some true → (a'.eval (.tmp 9) = .pointer (some ⟨Z1, 0, none⟩)) ∧ (w1.heap.size ≤ Z1) ∧ (Z1 ≠ Z2) ∧ (∃ u0 u1, w'.heap[Z1]? = some (.cells #[u0, u1] 25 (0, 0)))) ∧ (listed[10]? = some true → (a'.eval (.tmp 10) = .pointer (some ⟨Z2, 0, none⟩)) ∧ (w1.heap.size ≤ Z2) ∧ (Z1 ≠ Z2) ∧ (∃ u0 u1, w'.heap[Z2]? = some (.cells #[u0, u1] 25 (0, 0)))) ∧ (listed[11]? = some true → (listed[5]? = some true) ∧ (listed[9]? = some true) ∧ (w'.heap[Z1]? = some (.cells #[.int .i8 (rv.D.asl 4 a).1, .slice Gl ml cl] 25 (0, 0)))) ∧ (listed[12]? = some true → (listed[5]? = some true) ∧ (listed[10]? = some true) ∧ (w'.heap[Z2]? = some (.cells #[.int .i8 (rv.D.asr 4 a).1, .slice Gr mr cr] 25 (0, 0)))) ∧ (Z1 < w'.heap.size ∧ (Z1 = w.heap.size + 2 ∨ w1.heap.size ≤ Z1)) ∧ (Z2 < w'.heap.size ∧ (Z2 = w.heap.size + 2 ∨ w1.heap.size ≤ Z2)) ∧ Below w1.heap.size w1 w') (fun _ _ _ h => h.1) ?_ ?_ ?_
  · exact zGE
  · rintro listed a' w' i o ⟨hdf, hsz, hx, Z1, Z2, Gl, ml, cl, Gr, mr, cr, y0, y1, y2, y3, y4, y5, y6, y7, y8, y9, y10, y11, y12, ⟨sZ1, hZZ1⟩, ⟨sZ2, hZZ2⟩, hbw⟩ hz hsz0 ho hi hp
    have hi13 : i < 13 := by
      rcases Nat.lt_or_ge i 13 with q | q
      · exact q
      · exact ve
    rcases (by omega : i = 0 ∨ i = 1 ∨ i = 2 ∨ i = 3 ∨ i = 4 ∨ i = 5 ∨ i = 6 ∨ i = 7 ∨ i = 8 ∨ i = 9 ∨ i = 10 ∨ i = 11 ∨ i = 12) with rfl | rfl | rfl | rfl | rfl | rfl | rfl | rfl | rfl | rfl | rfl | rfl | rfl
    · obtain rfl := SI ho
      obtain ⟨c0, c1, c2, c3, c4, c5, c6, c7, c8, c9, c10, c11, c12, c13, c14, c15, c16, c17⟩ := HK.out w' hbw
      exact V_ ho 63 ⟨pd hdf, ps hsz, KX hx, Z1, Z2, Gl, ml, cl, Gr, mr, cr, (fun _ => pS hsz), K1 y1, K1 y2, K1 y3, K1 y4, K1 y5, K1 y6, K1 y7, K1 y8, K1 y9, K1 y10, K1 y11, K1 y12, ⟨sZ1, hZZ1⟩, ⟨sZ2, hZZ2⟩, hbw⟩
    · obtain rfl := SI ho
      obtain ⟨c0, c1, c2, c3, c4, c5, c6, c7, c8, c9, c10, c11, c12, c13, c14, c15, c16, c17⟩ := HK.out w' hbw
      exact V_ ho 64 ⟨pd hdf, ps hsz, KX hx, Z1, Z2, Gl, ml, cl, Gr, mr, cr, K1 y0, (fun _ => pS hsz), K1 y2, K1 y3, K1 y4, K1 y5, K1 y6, K1 y7, K1 y8, K1 y9, K1 y10, K1 y11, K1 y12, ⟨sZ1, hZZ1⟩, ⟨sZ2, hZZ2⟩, hbw⟩
    · obtain rfl := SI ho
      exact V_ ho 65 ⟨pd hdf, ps hsz, KX hx, Z1, Z2, Gl, ml, cl, Gr, mr, cr, K1 y0, K1 y1, (fun _ => pS hsz), K1 y3, K1 y4, K1 y5, K1 y6, K1 y7, K1 y8, K1 y9, K1 y10, K1 y11, K1 y12, ⟨sZ1, hZZ1⟩, ⟨sZ2, hZZ2⟩, hbw⟩
    · obtain rfl := SI ho
      have v2 := hpv hp 2 (by simp)
      have ww2 := (y2 v2)
      exact V_ ho 66 ⟨pd hdf, ps hsz, KX hx, Z1, Z2, Gl, ml, cl, Gr, mr, cr, K1 y0, K1 y1, K1 y2, (fun _ => pS hsz), K1 y4, K1 y5, K1 y6, K1 y7, K1 y8, K1 y9, K1 y10, K1 y11, K1 y12, ⟨sZ1, hZZ1⟩, ⟨sZ2, hZZ2⟩, hbw⟩
    · obtain rfl := SI ho
      have v3 := hpv hp 3 (by simp)
      have ww3 := (y3 v3)
      obtain ⟨c0, c1, c2, c3, c4, c5, c6, c7, c8, c9, c10, c11, c12, c13, c14, c15, c16, c17⟩ := HK.out w' hbw
      exact V_ ho 67 ⟨pd hdf, ps hsz, KX hx, Z1, Z2, Gl, ml, cl, Gr, mr, cr, K1 y0, K1 y1, K1 y2, K1 y3, (fun _ => pS hsz), K1 y5, K1 y6, K1 y7, K1 y8, K1 y9, K1 y10, K1 y11, K1 y12, ⟨sZ1, hZZ1⟩, ⟨sZ2, hZZ2⟩, hbw⟩
    · obtain rfl := SI ho
      have v0 := hpv hp 0 (by simp)
      have ww0 := (y0 v0)
      have v1 := hpv hp 1 (by simp)
      have ww1 := (y1 v1)
      have v4 := hpv hp 4 (by simp)
      have ww4 := (y4 v4)
      refine M_ ho 68 (qW rv (fun b => Ck.Cut Q w.heap.size (w.heap.size + 3) b ∧ b ≠ Z1 ∧ b ≠ Z2) h p 4 a Ga ma ca w' (by decide) (Ck.Ly.later (Ck.Ly.weak HAL.out (fun b hl hq => ⟨hq, qQ (Nat.le_of_eq HZ.out.symm) hZZ1 hl hq, qQ (Nat.le_of_eq HZ.out.symm) hZZ2 hl hq⟩)) hbw) hoka (HS.out.below hbw)) fun e u hg => ?_
      · exact zHJ
    · obtain rfl := SI ho
      have v5 := hpv hp 5 (by simp)
      have ww5 := (y5 v5).1
      exact V_ ho 62 ⟨pd hdf, ps hsz, KX hx, Z1, Z2, Gl, ml, cl, Gr, mr, cr, K1 y0, K1 y1, K1 y2, K1 y3, K1 y4, K1 y5, (fun _ => ⟨pS hsz, (zA v5)⟩), K1 y7, K1 y8, K1 y9, K1 y10, K1 y11, K1 y12, ⟨sZ1, hZZ1⟩, ⟨sZ2, hZZ2⟩, hbw⟩
    · obtain rfl := SI ho
      have v6 := hpv hp 6 (by simp)
      have ww6 := (y6 v6).1
      exact V_ ho 69 ⟨pd hdf, ps hsz, KX hx, Z1, Z2, Gl, ml, cl, Gr, mr, cr, K1 y0, K1 y1, K1 y2, K1 y3, K1 y4, K1 y5, K1 y6, (fun _ => ⟨pS hsz, (zA ((y6 v6).2))⟩), K1 y8, K1 y9, K1 y10, K1 y11, K1 y12, ⟨sZ1, hZZ1⟩, ⟨sZ2, hZZ2⟩, hbw⟩
    · obtain rfl := SI ho
      have v6 := hpv hp 6 (by simp)
      have ww6 := (y6 v6).1
      exact V_ ho 70 ⟨pd hdf, ps hsz, KX hx, Z1, Z2, Gl, ml, cl, Gr, mr, cr, K1 y0, K1 y1, K1 y2, K1 y3, K1 y4, K1 y5, K1 y6, K1 y7, (fun _ => ⟨pS hsz, (zA ((y6 v6).2))⟩), K1 y9, K1 y10, K1 y11, K1 y12, ⟨sZ1, hZZ1⟩, ⟨sZ2, hZZ2⟩, hbw⟩
    · obtain rfl := SI ho
      refine zW ho rfl (zm 9 rfl (v := .pointer (some ⟨w'.heap.size, 0, none⟩)) (w2 := w'.alloc (.cells #[.int .i8 0, .slice none 0 0] 25)) ?_ ?_)
      · exact EV
      · exact c8_
    · obtain rfl := SI ho
      refine zW ho rfl (zm 10 rfl (v := .pointer (some ⟨w'.heap.size, 0, none⟩)) (w2 := w'.alloc (.cells #[.int .i8 0, .slice none 0 0] 25)) ?_ ?_)
      · exact EV
      · exact c9_
    · exact zHS
    · exact zHT
  · rintro listed u w' t ht hu ⟨-, -, -, Z1, Z2, Gl, ml, cl, Gr, mr, cr, y0, y1, y2, y3, y4, y5, y6, y7, y8, y9, y10, y11, y12, ⟨sZ1, hZZ1⟩, ⟨sZ2, hZZ2⟩, hbw⟩ hall
    have v5 := hall 5 (by decide)
    have v9 := hall 9 (by decide)
    have v10 := hall 10 (by decide)
    have v11 := hall 11 (by decide)
    have v12 := hall 12 (by decide)
    have HBW := k0_ hbw
    have P1 := k0_ ((y5 v5).2.1)
    have LL := k0_ ((y5 v5).2.2.1)
    have LR := k0_ ((y5 v5).2.2.2)
    have eb1 := ((y9 v9).1)
    have eb2 := ((y10 v10).1)
    have HX1 := k0_ ((y11 v11).2.2)
    have HX2 := k0_ ((y12 v12).2.2)
    have HLO := k0_ (And.intro ((y9 v9).2.1) ((y10 v10).2.1))
    rw [hu 9 (by decide) (by decide)] at eb1
    rw [hu 10 (by decide) (by decide)] at eb2
    clear y0 y1 y2 y3 y4 y5 y6 y7 y8 y9 y10 y11 y12 v5 v9 v10 v11 v12 hall hu
    clear hbw
    simp only [over, List.setIfInBounds_toArray, List.set_cons_succ, List.set_cons_zero, eb1, eb2] at ht
    subst ht
    clear eb1 eb2
    have hz := HZ.out
    have z2 := zC HBW.out (zD H2.out) H2.out
    obtain ⟨x0, x1, f0, f1, xl⟩ := zM z2
    obtain ⟨u0, u1, g0, g1, ul⟩ := zM HX1.out
    go_wp2_with fail
    have z3 := zT z2 (.int .i8 (rv.D.asl 4 a).1) (.slice Gl ml cl)
    obtain ⟨k0, k1, -, -, -⟩ := zM z3
    refine ⟨rfl, .agg #[.int .i8 (rv.D.asl 4 a).1, .slice Gl ml cl], by simp [results, Tryz.results104, go_sem, k0, k1], ?_⟩
    rw [HR.out, if_pos P1.out]
    exact ⟨Gl, ml, cl, rfl, (Ck.Ly.set2 LL.out (fun b hq => hq.1.ne (by omega) (by omega)) _ _).weak (fun b _ hq => hq.1.out (by omega)), zL (hfrom.out _ HBW.out) (by omega) _ _⟩
theorem zCt (rv : Cg.Rv) (Q : Nat → Prop) (h : Hd) (p : Pl) (a : Ck.T2) (Y n cap : Nat) (w : World) (hk : h.kind = 11) (hn : n = 1) (hR : Ck.Row Q w [a] Y) (hS : Shapes w) (hoka : Ty.okT a.1 a.2 = true) :
    Calls Tryz.prog 104 #[.agg (rF_ rv), .agg (tC_ h p), .slice (some ⟨Y, 0, none⟩) n cap] w (Ck.Post Q w (Cg.over rv.D h a (0, .nil) (0, .nil))) := by
  try unfold tC_
  try unfold rF_
  rw [Cg.zBm _ _ _ _ _ hk]
  obtain ⟨Ga, ma, ca, a0, a1, aL⟩ := hR.cell 0 a rfl
  obtain ⟨w1, hw1, hB3, h0, h1, h2, hz⟩ := qN w (.cells (rF_ rv) 56) (.cells (tC_ h p) 28) (.cells #[.int .i8 0, .slice none 0 0] 25)
  have HW1 := k0_ hw1
  have HB3 := k0_ hB3
  have H0 := k0_ h0
  have H1 := k0_ h1
  have H2 := k0_ h2
  have HZ := k0_ hz
  have HAL : Hid (Ck.Ly (Ck.Cut Q w.heap.size (w.heap.size + 3)) w1 a Ga ma ca) := k0_ ((aL.weak (fun b hl hq => .inl ⟨hq, hl⟩)).later hB3)
  have HS := k0_ (hS.below hB3)
  have hfrom := k0_ (fun (W : World) (hb : Below w1.heap.size w1 W) => hB3.trans (hb.mono hB3.size))
  have HA := k0_ (And.intro (zB a0 hB3) (zB a1 hB3))
  have HK := k0_ (fun (W : World) (hb : Below w1.heap.size w1 W) => (show W.cell? ⟨w.heap.size, 0, none⟩ = some (.func (Fn.func rv.fr) #[] rv.cpt) ∧ W.cell? ⟨w.heap.size, 1, none⟩ = some (.func (Fn.func rv.fa) #[] #[]) ∧ W.cell? ⟨w.heap.size, 2, none⟩ = some (.func (Fn.func rv.fm) #[] #[]) ∧ W.cell? ⟨w.heap.size, 3, none⟩ = some (.func (Fn.func rv.ft) #[] #[]) ∧ W.cell? ⟨w.heap.size, 4, none⟩ = some rv.vg ∧ W.cell? ⟨w.heap.size + 1, 0, none⟩ = some (.int .i8 h.kind) ∧ W.cell? ⟨w.heap.size + 1, 1, none⟩ = some (.string h.name) ∧ W.cell? ⟨w.heap.size + 1, 2, none⟩ = some (.string h.arg) ∧ W.cell? ⟨w.heap.size + 1, 3, none⟩ = some (.int .i64 h.num) ∧ W.cell? ⟨w.heap.size + 1, 4, none⟩ = some (.int .i8 h.tk) ∧ W.cell? ⟨w.heap.size + 1, 5, none⟩ = some (.slice p.TA p.tn p.tc) ∧ W.cell? ⟨w.heap.size + 1, 6, none⟩ = some (.int .i8 h.uk) ∧ W.cell? ⟨w.heap.size + 1, 7, none⟩ = some (.slice p.UA p.un p.uc) ∧ W.cell? ⟨w.heap.size + 1, 8, none⟩ = some (.int .i64 h.label) ∧ W.cell? ⟨w.heap.size + 1, 9, none⟩ = some (.int .i64 h.pos) ∧ W.cell? ⟨w.heap.size + 1, 10, none⟩ = some (.slice p.A p.n p.c) ∧ W.cell? ⟨Y, 0, none⟩ = some (.int .i8 a.1) ∧ W.cell? ⟨Y, 1, none⟩ = some (.slice Ga ma ca) from by
    obtain ⟨r0, r1, r2, r3, r4, -⟩ := jI (zC hb (zD H0.out) H0.out)
    obtain ⟨q0, q1, q2, q3, q4, q5, q6, q7, q8, q9, q10, ql⟩ := zN (zC hb (zD H1.out) H1.out)
    exact ⟨r0, r1, r2, r3, r4, q0, q1, q2, q3, q4, q5, q6, q7, q8, q9, q10, zB HA.out.1 hb, zB HA.out.2 hb⟩))
  clear hR hS a0 a1 aL hB3 h0 h1 h2 hz
  subst hn
  have HKK := k0_ hk
  clear hk
  obtain ⟨R, hR⟩ : ∃ R, R = (if rv.D.asO 4 a = true then .ok (rv.D.asr 4 a) else Ck.fault h 90) := ⟨_, rfl⟩
  rw [← hR]
  have HR := k0_ hR
  clear hR
  go_enter Tryz.func104, Tryz.ntmps104
  go_upto_region 1 with fail
  rw [← HW1.out]
  obtain ⟨r0, r1, r2, r3, r4, q0, q1, q2, q3, q4, q5, q6, q7, q8, q9, q10, y0, y1⟩ := HK.out w1 (Below.refl _ _)
  rw [HKK.out] at q0
  clear hw1
  go_upto_region 15 with fail
  clear r0 r1 r2 r3 r4 q0 q1 q2 q3 q4 q5 q6 q7 q8 q9 q10 y0 y1
  refine zO 170 rfl [75, 76, 77, 78, 79, 80, 74, 81, 82, 11, 12] (by kernel_rfl) (by kernel_rfl) (by kernel_rfl) (fun listed a' w' => a'.defers = [] ∧ a'.tmps.size = 170 ∧ (a'.eval (.tmp 2) = .slice (some ⟨Y, 0, none⟩) 1 cap ∧ a'.eval (.tmp 3) = .pointer (some ⟨w.heap.size, 0, none⟩) ∧ a'.eval (.tmp 4) = .pointer (some ⟨w.heap.size + 1, 0, none⟩) ∧ a'.eval (.tmp 6) = .pointer (some ⟨w.heap.size + 1 + 1, 0, none⟩)) ∧ ∃ Z1 Z2 Gl ml cl Gr mr cr, (listed[0]? = some true → (a'.eval (.tmp 75) = .agg (rF_ rv))) ∧ (listed[1]? = some true → (a'.eval (.tmp 76) = .agg (tC_ h p))) ∧ (listed[2]? = some true → (a'.eval (.tmp 77) = .slice (some ⟨Y, 0, none⟩) 1 cap)) ∧ (listed[3]? = some true → (a'.eval (.tmp 78) = .pointer (some ⟨Y, 0, none⟩))) ∧ (listed[4]? = some true → (a'.eval (.tmp 79) = .agg #[.int .i8 a.1, .slice Ga ma ca])) ∧ (listed[5]? = some true → (a'.eval (.tmp 80) = .tuple #[.agg #[.int .i8 (rv.D.asl 4 a).1, .slice Gl ml cl], .agg #[.int .i8 (rv.D.asr 4 a).1, .slice Gr mr cr]]) ∧ (rv.D.asO 4 a = true) ∧ (Ck.Ly (fun b => Ck.Cut Q w.heap.size (w.heap.size + 3) b ∧ b ≠ Z1 ∧ b ≠ Z2) w' (rv.D.asl 4 a) Gl ml cl) ∧ (Ck.Ly (fun b => Ck.Cut Q w.heap.size (w.heap.size + 3) b ∧ b ≠ Z1 ∧ b ≠ Z2) w' (rv.D.asr 4 a) Gr mr cr)) ∧ (listed[6]? = some true → (a'.eval (.tmp 74) = .tuple #[.agg #[.int .i8 (rv.D.asl 4 a).1, .slice Gl ml cl], .agg #[.int .i8 (rv.D.asr 4 a).1, .slice Gr mr cr]]) ∧ (listed[5]? = some true)) ∧ (listed[7]? = some true → (a'.eval (.tmp 81) = .agg #[.int .i8 (rv.D.asl 4 a).1, .slice Gl ml cl]) ∧ (listed[5]? = some true)) ∧ (listed[8]? = some true → (a'.eval (.tmp 82) = .agg #[.int .i8 (rv.D.asr 4 a).1, .slice Gr mr cr]) ∧ (listed[5]? = some true)) ∧ (listed[9]? = some true → (a'.eval (.tmp 11) = .pointer (some ⟨Z1, 0, none⟩)) ∧ (w1.heap.size ≤ Z1) ∧ (Z1 ≠ Z2) ∧ (∃ u0 u1, w'.heap[Z1]? = some (.cells #[u0, u1] 25 (0, 0)))) ∧ (listed[10]? = some true → (a'.eval (.tmp 12) = .pointer (some ⟨Z2, 0, none⟩)) ∧ (w1.heap.size ≤ Z2) ∧ (Z1 ≠ Z2) ∧ (∃ u0 u1, w'.heap[Z2]? = some (.cells #[u0, u1] 25 (0, 0)))) ∧ (listed[11]? = some true → (listed[5]? = some true) ∧ (listed[9]? = some true) ∧ (w'.heap[Z1]? = some (.cells #[.int .i8 (rv.D.asl 4 a).1, .slice Gl ml cl] 25 (0, 0)))) ∧ (listed[12]? = some true → (listed[5]? = some true) ∧ (listed[10]? = some true) ∧ (w'.heap[Z2]? = some (.cells #[.int .i8 (rv.D.asr 4 a).1, .slice Gr mr cr] 25 (0, 0)))) ∧ (Z1 < w'.heap.size ∧ (Z1 = w.heap.size + 2 ∨ w1.heap.size ≤ Z1)) ∧ (Z2 < w'.heap.size ∧ (Z2 = w.heap.size + 2 ∨ w1.heap.size ≤ Z2)) ∧ Below w1.heap.size w1 w') (fun _ _ _ h => h.1) ?_ ?_ ?_
  · exact zGE
  · rintro listed a' w' i o ⟨hdf, hsz, hx, Z1, Z2, Gl, ml, cl, Gr, mr, cr, y0, y1, y2, y3, y4, y5, y6, y7, y8, y9, y10, y11, y12, ⟨sZ1, hZZ1⟩, ⟨sZ2, hZZ2⟩, hbw⟩ hz hsz0 ho hi hp
    have hi13 : i < 13 := by
      rcases Nat.lt_or_ge i 13 with q | q
      · exact q
      · exact ve
    rcases (by omega : i = 0 ∨ i = 1 ∨ i = 2 ∨ i = 3 ∨ i = 4 ∨ i = 5 ∨ i = 6 ∨ i = 7 ∨ i = 8 ∨ i = 9 ∨ i = 10 ∨ i = 11 ∨ i = 12) with rfl | rfl | rfl | rfl | rfl | rfl | rfl | rfl | rfl | rfl | rfl | rfl | rfl
    · obtain rfl := SI ho
      obtain ⟨c0, c1, c2, c3, c4, c5, c6, c7, c8, c9, c10, c11, c12, c13, c14, c15, c16, c17⟩ := HK.out w' hbw
      exact V_ ho 75 ⟨pd hdf, ps hsz, KX hx, Z1, Z2, Gl, ml, cl, Gr, mr, cr, (fun _ => pS hsz), K1 y1, K1 y2, K1 y3, K1 y4, K1 y5, K1 y6, K1 y7, K1 y8, K1 y9, K1 y10, K1 y11, K1 y12, ⟨sZ1, hZZ1⟩, ⟨sZ2, hZZ2⟩, hbw⟩
    · obtain rfl := SI ho
      obtain ⟨c0, c1, c2, c3, c4, c5, c6, c7, c8, c9, c10, c11, c12, c13, c14, c15, c16, c17⟩ := HK.out w' hbw
      exact V_ ho 76 ⟨pd hdf, ps hsz, KX hx, Z1, Z2, Gl, ml, cl, Gr, mr, cr, K1 y0, (fun _ => pS hsz), K1 y2, K1 y3, K1 y4, K1 y5, K1 y6, K1 y7, K1 y8, K1 y9, K1 y10, K1 y11, K1 y12, ⟨sZ1, hZZ1⟩, ⟨sZ2, hZZ2⟩, hbw⟩
    · obtain rfl := SI ho
      exact V_ ho 77 ⟨pd hdf, ps hsz, KX hx, Z1, Z2, Gl, ml, cl, Gr, mr, cr, K1 y0, K1 y1, (fun _ => pS hsz), K1 y3, K1 y4, K1 y5, K1 y6, K1 y7, K1 y8, K1 y9, K1 y10, K1 y11, K1 y12, ⟨sZ1, hZZ1⟩, ⟨sZ2, hZZ2⟩, hbw⟩
    · obtain rfl := SI ho
      have v2 := hpv hp 2 (by simp)
      have ww2 := (y2 v2)
      exact V_ ho 78 ⟨pd hdf, ps hsz, KX hx, Z1, Z2, Gl, ml, cl, Gr, mr, cr, K1 y0, K1 y1, K1 y2, (fun _ => pS hsz), K1 y4, K1 y5, K1 y6, K1 y7, K1 y8, K1 y9, K1 y10, K1 y11, K1 y12, ⟨sZ1, hZZ1⟩, ⟨sZ2, hZZ2⟩, hbw⟩
    · obtain rfl := SI ho
      have v3 := hpv hp 3 (by simp)
      have ww3 := (y3 v3)
      obtain ⟨c0, c1, c2, c3, c4, c5, c6, c7, c8, c9, c10, c11, c12, c13, c14, c15, c16, c17⟩ := HK.out w' hbw
      exact V_ ho 79 ⟨pd hdf, ps hsz, KX hx, Z1, Z2, Gl, ml, cl, Gr, mr, cr, K1 y0, K1 y1, K1 y2, K1 y3, (fun _ => pS hsz), K1 y5, K1 y6, K1 y7, K1 y8, K1 y9, K1 y10, K1 y11, K1 y12, ⟨sZ1, hZZ1⟩, ⟨sZ2, hZZ2⟩, hbw⟩
    · obtain rfl := SI ho
      have v0 := hpv hp 0 (by simp)
      have ww0 := (y0 v0)
      have v1 := hpv hp 1 (by simp)
      have ww1 := (y1 v1)
      have v4 := hpv hp 4 (by simp)
      have ww4 := (y4 v4)
      refine M_ ho 80 (qW rv (fun b => Ck.Cut Q w.heap.size (w.heap.size + 3) b ∧ b ≠ Z1 ∧ b ≠ Z2) h p 4 a Ga ma ca w' (by decide) (Ck.Ly.later (Ck.Ly.weak HAL.out (fun b hl hq => ⟨hq, qQ (Nat.le_of_eq HZ.out.symm) hZZ1 hl hq, qQ (Nat.le_of_eq HZ.out.symm) hZZ2 hl hq⟩)) hbw) hoka (HS.out.below hbw)) fun e u hg => ?_
      · exact zHJ
    · obtain rfl := SI ho
      have v5 := hpv hp 5 (by simp)
      have ww5 := (y5 v5).1
      exact V_ ho 74 ⟨pd hdf, ps hsz, KX hx, Z1, Z2, Gl, ml, cl, Gr, mr, cr, K1 y0, K1 y1, K1 y2, K1 y3, K1 y4, K1 y5, (fun _ => ⟨pS hsz, (zA v5)⟩), K1 y7, K1 y8, K1 y9, K1 y10, K1 y11, K1 y12, ⟨sZ1, hZZ1⟩, ⟨sZ2, hZZ2⟩, hbw⟩
    · obtain rfl := SI ho
      have v6 := hpv hp 6 (by simp)
      have ww6 := (y6 v6).1
      exact V_ ho 81 ⟨pd hdf, ps hsz, KX hx, Z1, Z2, Gl, ml, cl, Gr, mr, cr, K1 y0, K1 y1, K1 y2, K1 y3, K1 y4, K1 y5, K1 y6, (fun _ => ⟨pS hsz, (zA ((y6 v6).2))⟩), K1 y8, K1 y9, K1 y10, K1 y11, K1 y12, ⟨sZ1, hZZ1⟩, ⟨sZ2, hZZ2⟩, hbw⟩
    · obtain rfl := SI ho
      have v6 := hpv hp 6 (by simp)
      have ww6 := (y6 v6).1
      exact V_ ho 82 ⟨pd hdf, ps hsz, KX hx, Z1, Z2, Gl, ml, cl, Gr, mr, cr, K1 y0, K1 y1, K1 y2, K1 y3, K1 y4, K1 y5, K1 y6, K1 y7, (fun _ => ⟨pS hsz, (zA ((y6 v6).2))⟩), K1 y9, K1 y10, K1 y11, K1 y12, ⟨sZ1, hZZ1⟩, ⟨sZ2, hZZ2⟩, hbw⟩
    · obtain rfl := SI ho
      refine zW ho rfl (zm 11 rfl (v := .pointer (some ⟨w'.heap.size, 0, none⟩)) (w2 := w'.alloc (.cells #[.int .i8 0, .slice none 0 0] 25)) ?_ ?_)
      · exact EV
      · exact c8_
    · obtain rfl := SI ho
      refine zW ho rfl (zm 12 rfl (v := .pointer (some ⟨w'.heap.size, 0, none⟩)) (w2 := w'.alloc (.cells #[.int .i8 0, .slice none 0 0] 25)) ?_ ?_)
      · exact EV
      · exact c9_
    · exact zHS
    · exact zHT
  · rintro listed u w' t ht hu ⟨-, -, -, Z1, Z2, Gl, ml, cl, Gr, mr, cr, y0, y1, y2, y3, y4, y5, y6, y7, y8, y9, y10, y11, y12, ⟨sZ1, hZZ1⟩, ⟨sZ2, hZZ2⟩, hbw⟩ hall
    have v5 := hall 5 (by decide)
    have v9 := hall 9 (by decide)
    have v10 := hall 10 (by decide)
    have v11 := hall 11 (by decide)
    have v12 := hall 12 (by decide)
    have HBW := k0_ hbw
    have P1 := k0_ ((y5 v5).2.1)
    have LL := k0_ ((y5 v5).2.2.1)
    have LR := k0_ ((y5 v5).2.2.2)
    have eb1 := ((y9 v9).1)
    have eb2 := ((y10 v10).1)
    have HX1 := k0_ ((y11 v11).2.2)
    have HX2 := k0_ ((y12 v12).2.2)
    have HLO := k0_ (And.intro ((y9 v9).2.1) ((y10 v10).2.1))
    rw [hu 11 (by decide) (by decide)] at eb1
    rw [hu 12 (by decide) (by decide)] at eb2
    clear y0 y1 y2 y3 y4 y5 y6 y7 y8 y9 y10 y11 y12 v5 v9 v10 v11 v12 hall hu
    clear hbw
    simp only [over, List.setIfInBounds_toArray, List.set_cons_succ, List.set_cons_zero, eb1, eb2] at ht
    subst ht
    clear eb1 eb2
    have hz := HZ.out
    have z2 := zC HBW.out (zD H2.out) H2.out
    obtain ⟨x0, x1, f0, f1, xl⟩ := zM z2
    obtain ⟨u0, u1, g0, g1, ul⟩ := zM HX2.out
    go_wp2_with fail
    have z3 := zT z2 (.int .i8 (rv.D.asr 4 a).1) (.slice Gr mr cr)
    obtain ⟨k0, k1, -, -, -⟩ := zM z3
    refine ⟨rfl, .agg #[.int .i8 (rv.D.asr 4 a).1, .slice Gr mr cr], by simp [results, Tryz.results104, go_sem, k0, k1], ?_⟩
    rw [HR.out, if_pos P1.out]
    exact ⟨Gr, mr, cr, rfl, (Ck.Ly.set2 LR.out (fun b hq => hq.1.ne (by omega) (by omega)) _ _).weak (fun b _ hq => hq.1.out (by omega)), zL (hfrom.out _ HBW.out) (by omega) _ _⟩
end Go.Proofs.YtgjemmmbnpkamaaGreatDoor
namespace Go.Proofs.YtgjemmmbnpkamaaGreatDoor
open Go.RowKit
set_option maxHeartbeats 1500000 in
set_option maxRecDepth 100000 in
theorem zEC (rv : Cg.Rv) (Q : Nat → Prop) (h : Hd) (p : Pl) (a b : Ck.T2) (Y n cap : Nat) (w : World) (hk : h.kind = 6) (hn : n = 2) (hR : Ck.Row Q w [a, b] Y) (hS : Shapes w) (hoka : Ty.okT a.1 a.2 = true) :
    Calls Tryz.prog 104 #[.agg (rF_ rv), .agg (tC_ h p), .slice (some ⟨Y, 0, none⟩) n cap] w (Ck.Post Q w (Cg.over rv.D h a b (0, .nil))) := by
  try unfold tC_
  try unfold rF_
  rw [Cg.zDm _ _ _ _ _ hk]
  obtain ⟨Ga, ma, ca, a0, a1, aL⟩ := hR.cell 0 a rfl
  obtain ⟨Gb, mb, cb, b0, b1, bL⟩ := hR.cell 1 b rfl
  obtain ⟨w1, hw1, hB3, h0, h1, h2, hz⟩ := qN w (.cells (rF_ rv) 56) (.cells (tC_ h p) 28) (.cells #[.int .i8 0, .slice none 0 0] 25)
  have HW1 := k0_ hw1
  have HB3 := k0_ hB3
  have H0 := k0_ h0
  have H1 := k0_ h1
  have H2 := k0_ h2
  have HZ := k0_ hz
  have HAL : Hid (Ck.Ly (Ck.Cut Q w.heap.size (w.heap.size + 3)) w1 a Ga ma ca) := k0_ ((aL.weak (fun b hl hq => .inl ⟨hq, hl⟩)).later hB3)
  have HBL : Hid (Ck.Ly (Ck.Cut Q w.heap.size (w.heap.size + 3)) w1 b Gb mb cb) := k0_ ((bL.weak (fun b hl hq => .inl ⟨hq, hl⟩)).later hB3)
  have HS := k0_ (hS.below hB3)
  have hfrom := k0_ (fun (W : World) (hb : Below w1.heap.size w1 W) => hB3.trans (hb.mono hB3.size))
  have HA := k0_ (And.intro (zB a0 hB3) (zB a1 hB3))
  have HB := k0_ (And.intro (zB b0 hB3) (zB b1 hB3))
  have HK := k0_ (fun (W : World) (hb : Below w1.heap.size w1 W) => (show W.cell? ⟨w.heap.size, 0, none⟩ = some (.func (Fn.func rv.fr) #[] rv.cpt) ∧ W.cell? ⟨w.heap.size, 1, none⟩ = some (.func (Fn.func rv.fa) #[] #[]) ∧ W.cell? ⟨w.heap.size, 2, none⟩ = some (.func (Fn.func rv.fm) #[] #[]) ∧ W.cell? ⟨w.heap.size, 3, none⟩ = some (.func (Fn.func rv.ft) #[] #[]) ∧ W.cell? ⟨w.heap.size, 4, none⟩ = some rv.vg ∧ W.cell? ⟨w.heap.size + 1, 0, none⟩ = some (.int .i8 h.kind) ∧ W.cell? ⟨w.heap.size + 1, 1, none⟩ = some (.string h.name) ∧ W.cell? ⟨w.heap.size + 1, 2, none⟩ = some (.string h.arg) ∧ W.cell? ⟨w.heap.size + 1, 3, none⟩ = some (.int .i64 h.num) ∧ W.cell? ⟨w.heap.size + 1, 4, none⟩ = some (.int .i8 h.tk) ∧ W.cell? ⟨w.heap.size + 1, 5, none⟩ = some (.slice p.TA p.tn p.tc) ∧ W.cell? ⟨w.heap.size + 1, 6, none⟩ = some (.int .i8 h.uk) ∧ W.cell? ⟨w.heap.size + 1, 7, none⟩ = some (.slice p.UA p.un p.uc) ∧ W.cell? ⟨w.heap.size + 1, 8, none⟩ = some (.int .i64 h.label) ∧ W.cell? ⟨w.heap.size + 1, 9, none⟩ = some (.int .i64 h.pos) ∧ W.cell? ⟨w.heap.size + 1, 10, none⟩ = some (.slice p.A p.n p.c) ∧ W.cell? ⟨Y, 0, none⟩ = some (.int .i8 a.1) ∧ W.cell? ⟨Y, 1, none⟩ = some (.slice Ga ma ca) ∧ W.cell? ⟨Y, 2, none⟩ = some (.int .i8 b.1) ∧ W.cell? ⟨Y, 3, none⟩ = some (.slice Gb mb cb) from by
    obtain ⟨r0, r1, r2, r3, r4, -⟩ := jI (zC hb (zD H0.out) H0.out)
    obtain ⟨q0, q1, q2, q3, q4, q5, q6, q7, q8, q9, q10, ql⟩ := zN (zC hb (zD H1.out) H1.out)
    exact ⟨r0, r1, r2, r3, r4, q0, q1, q2, q3, q4, q5, q6, q7, q8, q9, q10, zB HA.out.1 hb, zB HA.out.2 hb, zB HB.out.1 hb, zB HB.out.2 hb⟩))
  clear hR hS a0 a1 aL b0 b1 bL hB3 h0 h1 h2 hz
  subst hn
  have HKK := k0_ hk
  clear hk
  obtain ⟨R, hR⟩ : ∃ R, R = (if rv.D.asO 3 a = true then (if rv.D.ag b (rv.D.asl 3 a) = true then .ok (rv.D.asr 3 a) else Ck.fault h 91) else Ck.fault h 90) := ⟨_, rfl⟩
  rw [← hR]
  have HR := k0_ hR
  clear hR
  go_enter Tryz.func104, Tryz.ntmps104
  go_upto_region 1 with fail
  rw [← HW1.out]
  obtain ⟨r0, r1, r2, r3, r4, q0, q1, q2, q3, q4, q5, q6, q7, q8, q9, q10, y0, y1, y2, y3⟩ := HK.out w1 (Below.refl _ _)
  rw [HKK.out] at q0
  clear hw1
  go_upto_region 3 with fail
  clear r0 r1 r2 r3 r4 q0 q1 q2 q3 q4 q5 q6 q7 q8 q9 q10 y0 y1 y2 y3
  refine zO 170 rfl [22, 23, 24, 25, 26, 27, 21, 28, 29, 7, 8] (by kernel_rfl) (by kernel_rfl) (by kernel_rfl) (fun listed a' w' => a'.defers = [] ∧ a'.tmps.size = 170 ∧ (a'.eval (.tmp 2) = .slice (some ⟨Y, 0, none⟩) 2 cap ∧ a'.eval (.tmp 3) = .pointer (some ⟨w.heap.size, 0, none⟩) ∧ a'.eval (.tmp 4) = .pointer (some ⟨w.heap.size + 1, 0, none⟩) ∧ a'.eval (.tmp 6) = .pointer (some ⟨w.heap.size + 1 + 1, 0, none⟩)) ∧ ∃ Z1 Z2 Gl ml cl Gr mr cr, (listed[0]? = some true → (a'.eval (.tmp 22) = .agg (rF_ rv))) ∧ (listed[1]? = some true → (a'.eval (.tmp 23) = .agg (tC_ h p))) ∧ (listed[2]? = some true → (a'.eval (.tmp 24) = .slice (some ⟨Y, 0, none⟩) 2 cap)) ∧ (listed[3]? = some true → (a'.eval (.tmp 25) = .pointer (some ⟨Y, 0, none⟩))) ∧ (listed[4]? = some true → (a'.eval (.tmp 26) = .agg #[.int .i8 a.1, .slice Ga ma ca])) ∧ (listed[5]? = some true → (a'.eval (.tmp 27) = .tuple #[.agg #[.int .i8 (rv.D.asl 3 a).1, .slice Gl ml cl], .agg #[.int .i8 (rv.D.asr 3 a).1, .slice Gr mr cr]]) ∧ (rv.D.asO 3 a = true) ∧ (Ck.Ly (fun b => Ck.Cut Q w.heap.size (w.heap.size + 3) b ∧ b ≠ Z1 ∧ b ≠ Z2) w' (rv.D.asl 3 a) Gl ml cl) ∧ (Ck.Ly (fun b => Ck.Cut Q w.heap.size (w.heap.size + 3) b ∧ b ≠ Z1 ∧ b ≠ Z2) w' (rv.D.asr 3 a) Gr mr cr)) ∧ (listed[6]? = some true → (a'.eval (.tmp 21) = .tuple #[.agg #[.int .i8 (rv.D.asl 3 a).1, .slice Gl ml cl], .agg #[.int .i8 (rv.D.asr 3 a).1, .slice Gr mr cr]]) ∧ (listed[5]? = some true)) ∧ (listed[7]? = some true → (a'.eval (.tmp 28) = .agg #[.int .i8 (rv.D.asl 3 a).1, .slice Gl ml cl]) ∧ (listed[5]? = some true)) ∧ (listed[8]? = some true → (a'.eval (.tmp 29) = .agg #[.int .i8 (rv.D.asr 3 a).1, .slice Gr mr cr]) ∧ (listed[5]? = some true)) ∧ (listed[9]? = some true → (a'.eval (.tmp 7) = .pointer (some ⟨Z1, 0, none⟩)) ∧ (w1.heap.size ≤ Z1) ∧ (Z1 ≠ Z2) ∧ (∃ u0 u1, w'.heap[Z1]? = some (.cells #[u0, u1] 25 (0, 0)))) ∧ (listed[10]? = some true → (a'.eval (.tmp 8) = .pointer (some ⟨Z2, 0, none⟩)) ∧ (w1.heap.size ≤ Z2) ∧ (Z1 ≠ Z2) ∧ (∃ u0 u1, w'.heap[Z2]? = some (.cells #[u0, u1] 25 (0, 0)))) ∧ (listed[11]? = some true → (listed[5]? = some true) ∧ (listed[9]? = some true) ∧ (w'.heap[Z1]? = some (.cells #[.int .i8 (rv.D.asl 3 a).1, .slice Gl ml cl] 25 (0, 0)))) ∧ (listed[12]? = some true → (listed[5]? = some true) ∧ (listed[10]? = some true) ∧ (w'.heap[Z2]? = some (.cells #[.int .i8 (rv.D.asr 3 a).1, .slice Gr mr cr] 25 (0, 0)))) ∧ (Z1 < w'.heap.size ∧ (Z1 = w.heap.size + 2 ∨ w1.heap.size ≤ Z1)) ∧ (Z2 < w'.heap.size ∧ (Z2 = w.heap.size + 2 ∨ w1.heap.size ≤ Z2)) ∧ Below w1.heap.size w1 w') (fun _ _ _ h => h.1) ?_ ?_ ?_
  · exact zGE
  · rintro listed a' w' i o ⟨hdf, hsz, hx, Z1, Z2, Gl, ml, cl, Gr, mr, cr, y0, y1, y2, y3, y4, y5, y6, y7, y8, y9, y10, y11, y12, ⟨sZ1, hZZ1⟩, ⟨sZ2, hZZ2⟩, hbw⟩ hz hsz0 ho hi hp
    have hi13 : i < 13 := by
      rcases Nat.lt_or_ge i 13 with q | q
      · exact q
      · exact ve
    rcases (by omega : i = 0 ∨ i = 1 ∨ i = 2 ∨ i = 3 ∨ i = 4 ∨ i = 5 ∨ i = 6 ∨ i = 7 ∨ i = 8 ∨ i = 9 ∨ i = 10 ∨ i = 11 ∨ i = 12) with rfl | rfl | rfl | rfl | rfl | rfl | rfl | rfl | rfl | rfl | rfl | rfl | rfl
    · obtain rfl := SI ho
      obtain ⟨c0, c1, c2, c3, c4, c5, c6, c7, c8, c9, c10, c11, c12, c13, c14, c15, c16, c17, c18, c19⟩ := HK.out w' hbw
      exact V_ ho 22 ⟨pd hdf, ps hsz, KX hx, Z1, Z2, Gl, ml, cl, Gr, mr, cr, (fun _ => pS hsz), K1 y1, K1 y2, K1 y3, K1 y4, K1 y5, K1 y6, K1 y7, K1 y8, K1 y9, K1 y10, K1 y11, K1 y12, ⟨sZ1, hZZ1⟩, ⟨sZ2, hZZ2⟩, hbw⟩
    · obtain rfl := SI ho
      obtain ⟨c0, c1, c2, c3, c4, c5, c6, c7, c8, c9, c10, c11, c12, c13, c14, c15, c16, c17, c18, c19⟩ := HK.out w' hbw
      exact V_ ho 23 ⟨pd hdf, ps hsz, KX hx, Z1, Z2, Gl, ml, cl, Gr, mr, cr, K1 y0, (fun _ => pS hsz), K1 y2, K1 y3, K1 y4, K1 y5, K1 y6, K1 y7, K1 y8, K1 y9, K1 y10, K1 y11, K1 y12, ⟨sZ1, hZZ1⟩, ⟨sZ2, hZZ2⟩, hbw⟩
    · obtain rfl := SI ho
      exact V_ ho 24 ⟨pd hdf, ps hsz, KX hx, Z1, Z2, Gl, ml, cl, Gr, mr, cr, K1 y0, K1 y1, (fun _ => pS hsz), K1 y3, K1 y4, K1 y5, K1 y6, K1 y7, K1 y8, K1 y9, K1 y10, K1 y11, K1 y12, ⟨sZ1, hZZ1⟩, ⟨sZ2, hZZ2⟩, hbw⟩
    · obtain rfl := SI ho
      have v2 := hpv hp 2 (by simp)
      have ww2 := (y2 v2)
      exact V_ ho 25 ⟨pd hdf, ps hsz, KX hx, Z1, Z2, Gl, ml, cl, Gr, mr, cr, K1 y0, K1 y1, K1 y2, (fun _ => pS hsz), K1 y4, K1 y5, K1 y6, K1 y7, K1 y8, K1 y9, K1 y10, K1 y11, K1 y12, ⟨sZ1, hZZ1⟩, ⟨sZ2, hZZ2⟩, hbw⟩
    · obtain rfl := SI ho
      have v3 := hpv hp 3 (by simp)
      have ww3 := (y3 v3)
      obtain ⟨c0, c1, c2, c3, c4, c5, c6, c7, c8, c9, c10, c11, c12, c13, c14, c15, c16, c17, c18, c19⟩ := HK.out w' hbw
      exact V_ ho 26 ⟨pd hdf, ps hsz, KX hx, Z1, Z2, Gl, ml, cl, Gr, mr, cr, K1 y0, K1 y1, K1 y2, K1 y3, (fun _ => pS hsz), K1 y5, K1 y6, K1 y7, K1 y8, K1 y9, K1 y10, K1 y11, K1 y12, ⟨sZ1, hZZ1⟩, ⟨sZ2, hZZ2⟩, hbw⟩
    · obtain rfl := SI ho
      have v0 := hpv hp 0 (by simp)
      have ww0 := (y0 v0)
      have v1 := hpv hp 1 (by simp)
      have ww1 := (y1 v1)
      have v4 := hpv hp 4 (by simp)
      have ww4 := (y4 v4)
      refine M_ ho 27 (qW rv (fun b => Ck.Cut Q w.heap.size (w.heap.size + 3) b ∧ b ≠ Z1 ∧ b ≠ Z2) h p 3 a Ga ma ca w' (by decide) (Ck.Ly.later (Ck.Ly.weak HAL.out (fun b hl hq => ⟨hq, qQ (Nat.le_of_eq HZ.out.symm) hZZ1 hl hq, qQ (Nat.le_of_eq HZ.out.symm) hZZ2 hl hq⟩)) hbw) hoka (HS.out.below hbw)) fun e u hg => ?_
      · rcases hg with ⟨hq, hg⟩ | ⟨hq, hg⟩
        · have HP : Ck.Post Q w R e u := by rw [HR.out, if_neg (zY (show rv.D.asO 3 a = false from hq))]; exact Ck.Gave.from hg (hfrom.out w' hbw)
          exact vH
        · obtain ⟨Gl', ml', cl', Gr', mr', cr', rfl, hl, hl2, hb⟩ := hg
          refine .inl ?_
          refine ⟨.tuple #[.agg #[.int .i8 (rv.D.asl 3 a).1, .slice Gl' ml' cl'], .agg #[.int .i8 (rv.D.asr 3 a).1, .slice Gr' mr' cr']], rfl, ?_⟩
          exact zHQ
    · obtain rfl := SI ho
      have v5 := hpv hp 5 (by simp)
      have ww5 := (y5 v5).1
      exact V_ ho 21 ⟨pd hdf, ps hsz, KX hx, Z1, Z2, Gl, ml, cl, Gr, mr, cr, K1 y0, K1 y1, K1 y2, K1 y3, K1 y4, K1 y5, (fun _ => ⟨pS hsz, (zA v5)⟩), K1 y7, K1 y8, K1 y9, K1 y10, K1 y11, K1 y12, ⟨sZ1, hZZ1⟩, ⟨sZ2, hZZ2⟩, hbw⟩
    · obtain rfl := SI ho
      have v6 := hpv hp 6 (by simp)
      have ww6 := (y6 v6).1
      exact V_ ho 28 ⟨pd hdf, ps hsz, KX hx, Z1, Z2, Gl, ml, cl, Gr, mr, cr, K1 y0, K1 y1, K1 y2, K1 y3, K1 y4, K1 y5, K1 y6, (fun _ => ⟨pS hsz, (zA ((y6 v6).2))⟩), K1 y8, K1 y9, K1 y10, K1 y11, K1 y12, ⟨sZ1, hZZ1⟩, ⟨sZ2, hZZ2⟩, hbw⟩
    · obtain rfl := SI ho
      have v6 := hpv hp 6 (by simp)
      have ww6 := (y6 v6).1
      exact V_ ho 29 ⟨pd hdf, ps hsz, KX hx, Z1, Z2, Gl, ml, cl, Gr, mr, cr, K1 y0, K1 y1, K1 y2, K1 y3, K1 y4, K1 y5, K1 y6, K1 y7, (fun _ => ⟨pS hsz, (zA ((y6 v6).2))⟩), K1 y9, K1 y10, K1 y11, K1 y12, ⟨sZ1, hZZ1⟩, ⟨sZ2, hZZ2⟩, hbw⟩
    · obtain rfl := SI ho
      refine zW ho rfl (zm 7 rfl (v := .pointer (some ⟨w'.heap.size, 0, none⟩)) (w2 := w'.alloc (.cells #[.int .i8 0, .slice none 0 0] 25)) ?_ ?_)
      · exact EV
      · exact c8_
    · obtain rfl := SI ho
      refine zW ho rfl (zm 8 rfl (v := .pointer (some ⟨w'.heap.size, 0, none⟩)) (w2 := w'.alloc (.cells #[.int .i8 0, .slice none 0 0] 25)) ?_ ?_)
      · exact EV
      · exact c9_
    · obtain rfl := SI ho
      have v9 := hpv hp 9 (by simp)
      have ww9 := (y9 v9).1
      have v7 := hpv hp 7 (by simp)
      have ww7 := (y7 v7).1
      have hne := ((y9 v9).2.2.1)
      have hlo := ((y9 v9).2.1)
      obtain ⟨u0, u1, hbox⟩ := ((y9 v9).2.2.2)
      obtain ⟨bc0, bc1, bf0, bf1, -⟩ := zM hbox
      refine zW ho rfl (zx rfl (w2 := (w'.setCell ⟨Z1, 0, none⟩ (.int .i8 (rv.D.asl 3 a).1)).setCell ⟨Z1, 1, none⟩ (.slice Gl ml cl)) ?_ ?_)
      · exact EV
      · have hsa : ((w'.setCell ⟨Z1, 0, none⟩ (.int .i8 (rv.D.asl 3 a).1)).setCell ⟨Z1, 1, none⟩ (.slice Gl ml cl)).heap.size = w'.heap.size := by simp
        have hbs := hbw.size
        have hzz := HZ.out
        exact ⟨hdf, hsz, hx, Z1, Z2, Gl, ml, cl, Gr, mr, cr, K1 y0, K1 y1, K1 y2, K1 y3, K1 y4, K1 y5, K1 y6, K1 y7, K1 y8, (kF y9 (fun q => ⟨q.1, q.2.1, q.2.2.1, (jS q.2.2.2)⟩)), K1 y10, (fun _ => ⟨(zA ((y7 v7).2)), (zA v9), zT hbox _ _⟩), K1 y12, ⟨(by omega), hZZ1⟩, ⟨(by omega), hZZ2⟩, zL hbw hlo _ _⟩
    · obtain rfl := SI ho
      have v10 := hpv hp 10 (by simp)
      have ww10 := (y10 v10).1
      have v8 := hpv hp 8 (by simp)
      have ww8 := (y8 v8).1
      have hne := ((y10 v10).2.2.1)
      have hlo := ((y10 v10).2.1)
      obtain ⟨u0, u1, hbox⟩ := ((y10 v10).2.2.2)
      obtain ⟨bc0, bc1, bf0, bf1, -⟩ := zM hbox
      refine zW ho rfl (zx rfl (w2 := (w'.setCell ⟨Z2, 0, none⟩ (.int .i8 (rv.D.asr 3 a).1)).setCell ⟨Z2, 1, none⟩ (.slice Gr mr cr)) ?_ ?_)
      · exact EV
      · have hsa : ((w'.setCell ⟨Z2, 0, none⟩ (.int .i8 (rv.D.asr 3 a).1)).setCell ⟨Z2, 1, none⟩ (.slice Gr mr cr)).heap.size = w'.heap.size := by simp
        have hbs := hbw.size
        have hzz := HZ.out
        exact ⟨hdf, hsz, hx, Z1, Z2, Gl, ml, cl, Gr, mr, cr, K1 y0, K1 y1, K1 y2, K1 y3, K1 y4, K1 y5, K1 y6, K1 y7, K1 y8, K1 y9, (kF y10 (fun q => ⟨q.1, q.2.1, q.2.2.1, (jS q.2.2.2)⟩)), K1 y11, (fun _ => ⟨(zA ((y8 v8).2)), (zA v10), zT hbox _ _⟩), ⟨(by omega), hZZ1⟩, ⟨(by omega), hZZ2⟩, zL hbw hlo _ _⟩
  · rintro listed u w' t ht hu ⟨-, -, -, Z1, Z2, Gl, ml, cl, Gr, mr, cr, y0, y1, y2, y3, y4, y5, y6, y7, y8, y9, y10, y11, y12, ⟨sZ1, hZZ1⟩, ⟨sZ2, hZZ2⟩, hbw⟩ hall
    have v5 := hall 5 (by decide)
    have v9 := hall 9 (by decide)
    have v10 := hall 10 (by decide)
    have v11 := hall 11 (by decide)
    have v12 := hall 12 (by decide)
    have HBW := k0_ hbw
    have P1 := k0_ ((y5 v5).2.1)
    have LL := k0_ ((y5 v5).2.2.1)
    have LR := k0_ ((y5 v5).2.2.2)
    have eb1 := ((y9 v9).1)
    have eb2 := ((y10 v10).1)
    have HX1 := k0_ ((y11 v11).2.2)
    have HX2 := k0_ ((y12 v12).2.2)
    have HLO := k0_ (And.intro ((y9 v9).2.1) ((y10 v10).2.1))
    rw [hu 7 (by decide) (by decide)] at eb1
    rw [hu 8 (by decide) (by decide)] at eb2
    clear y0 y1 y2 y3 y4 y5 y6 y7 y8 y9 y10 y11 y12 v5 v9 v10 v11 v12 hall hu
    clear hbw
    simp only [over, List.setIfInBounds_toArray, List.set_cons_succ, List.set_cons_zero, eb1, eb2] at ht
    subst ht
    clear eb1 eb2
    have HZ' := k0_ (show w.heap.size + 3 ≤ w'.heap.size from by have h1 := HZ.out; have h2 := HBW.out.size; omega)
    have H1Z := k0_ (show w1.heap.size = w.heap.size + 3 from HZ.out)
    clear HZ
    have HZ := HZ'
    clear HZ'
    generalize hw4 : w' = w4 at *
    clear hw4
    have HK := k0_ (fun (W : World) (hb : Below w4.heap.size w4 W) => HK.out W (HBW.out.trans (hb.mono HBW.out.size)))
    have hfrom := k0_ (fun (W : World) (hb : Below w4.heap.size w4 W) => hfrom.out W (HBW.out.trans (hb.mono HBW.out.size)))
    have HAL := k0_ (HAL.out.later HBW.out)
    have HBL := k0_ (HBL.out.later HBW.out)
    have HS := k0_ (HS.out.below HBW.out)
    have H2 := k0_ (zC HBW.out (zD H2.out) H2.out)
    obtain ⟨r0, r1, r2, r3, r4, q0, q1, q2, q3, q4, q5, q6, q7, q8, q9, q10, y0, y1, y2, y3⟩ := HK.out w4 (Below.refl _ _)
    go_upto_region 4 with fail
    clear r0 r1 r2 r3 r4 q0 q1 q2 q3 q4 q5 q6 q7 q8 q9 q10 y0 y1 y2 y3
    refine zO 170 rfl [30, 31, 32, 33, 34, 35, 36] (by kernel_rfl) (by kernel_rfl) (by kernel_rfl) (fun listed a' w' => a'.defers = [] ∧ a'.tmps.size = 170 ∧ (a'.eval (.tmp 2) = .slice (some ⟨Y, 0, none⟩) 2 cap ∧ a'.eval (.tmp 3) = .pointer (some ⟨w.heap.size, 0, none⟩) ∧ a'.eval (.tmp 4) = .pointer (some ⟨w.heap.size + 1, 0, none⟩) ∧ a'.eval (.tmp 6) = .pointer (some ⟨w.heap.size + 1 + 1, 0, none⟩) ∧ a'.eval (.tmp 7) = .pointer (some ⟨Z1, 0, none⟩) ∧ a'.eval (.tmp 8) = .pointer (some ⟨Z2, 0, none⟩)) ∧ (listed[0]? = some true → (a'.eval (.tmp 30) = .agg (rF_ rv))) ∧ (listed[1]? = some true → (a'.eval (.tmp 31) = .agg (tC_ h p))) ∧ (listed[2]? = some true → (a'.eval (.tmp 32) = .slice (some ⟨Y, 0, none⟩) 2 cap)) ∧ (listed[3]? = some true → (a'.eval (.tmp 33) = .pointer (some ⟨Y, 2, none⟩))) ∧ (listed[4]? = some true → (a'.eval (.tmp 34) = .agg #[.int .i8 b.1, .slice Gb mb cb])) ∧ (listed[5]? = some true → (a'.eval (.tmp 35) = .agg #[.int .i8 (rv.D.asl 3 a).1, .slice Gl ml cl])) ∧ (listed[6]? = some true → (a'.eval (.tmp 36) = .tuple #[]) ∧ (rv.D.ag b (rv.D.asl 3 a) = true)) ∧ Below w4.heap.size w4 w') (fun _ _ _ h => h.1) ?_ ?_ ?_
    · exact zG8
    · rintro listed a' w' i o ⟨hdf, hsz, hx, y0, y1, y2, y3, y4, y5, y6, hbw⟩ hz hsz0 ho hi hp
      have hi13 : i < 7 := by
        exact zAR
      rcases (by omega : i = 0 ∨ i = 1 ∨ i = 2 ∨ i = 3 ∨ i = 4 ∨ i = 5 ∨ i = 6) with rfl | rfl | rfl | rfl | rfl | rfl | rfl
      · obtain rfl := SI ho
        obtain ⟨c0, c1, c2, c3, c4, c5, c6, c7, c8, c9, c10, c11, c12, c13, c14, c15, c16, c17, c18, c19⟩ := HK.out w' hbw
        exact V_ ho 30 ⟨pd hdf, ps hsz, KX hx, (fun _ => pS hsz), K1 y1, K1 y2, K1 y3, K1 y4, K1 y5, K1 y6, hbw⟩
      · obtain rfl := SI ho
        obtain ⟨c0, c1, c2, c3, c4, c5, c6, c7, c8, c9, c10, c11, c12, c13, c14, c15, c16, c17, c18, c19⟩ := HK.out w' hbw
        exact V_ ho 31 ⟨pd hdf, ps hsz, KX hx, K1 y0, (fun _ => pS hsz), K1 y2, K1 y3, K1 y4, K1 y5, K1 y6, hbw⟩
      · obtain rfl := SI ho
        exact V_ ho 32 ⟨pd hdf, ps hsz, KX hx, K1 y0, K1 y1, (fun _ => pS hsz), K1 y3, K1 y4, K1 y5, K1 y6, hbw⟩
      · obtain rfl := SI ho
        have v2 := hpv hp 2 (by simp)
        have ww2 := (y2 v2)
        exact V_ ho 33 ⟨pd hdf, ps hsz, KX hx, K1 y0, K1 y1, K1 y2, (fun _ => pS hsz), K1 y4, K1 y5, K1 y6, hbw⟩
      · obtain rfl := SI ho
        have v3 := hpv hp 3 (by simp)
        have ww3 := (y3 v3)
        obtain ⟨c0, c1, c2, c3, c4, c5, c6, c7, c8, c9, c10, c11, c12, c13, c14, c15, c16, c17, c18, c19⟩ := HK.out w' hbw
        exact V_ ho 34 ⟨pd hdf, ps hsz, KX hx, K1 y0, K1 y1, K1 y2, K1 y3, (fun _ => pS hsz), K1 y5, K1 y6, hbw⟩
      · obtain rfl := SI ho
        obtain ⟨e0, e1, -, -, -⟩ := zM (zC hbw (zD HX1.out) HX1.out)
        exact V_ ho 35 ⟨pd hdf, ps hsz, KX hx, K1 y0, K1 y1, K1 y2, K1 y3, K1 y4, (fun _ => pS hsz), K1 y6, hbw⟩
      · obtain rfl := SI ho
        have v0 := hpv hp 0 (by simp)
        have ww0 := (y0 v0)
        have v1 := hpv hp 1 (by simp)
        have ww1 := (y1 v1)
        have v4 := hpv hp 4 (by simp)
        have ww4 := (y4 v4)
        have v5 := hpv hp 5 (by simp)
        have ww5 := (y5 v5)
        refine M_ ho 36 (qA rv h p b.1 b.2 Gb mb cb (rv.D.asl 3 a).1 (rv.D.asl 3 a).2 Gl ml cl w' (HBL.out.later hbw).is (LL.out.later hbw).is (HS.out.below hbw)) fun e u hg => ?_
        · rcases hg with ⟨hq, hg⟩ | ⟨hq, hg⟩
          · have HP : Ck.Post Q w R e u := by rw [HR.out, if_pos P1.out, if_neg (zY (show rv.D.ag b (rv.D.asl 3 a) = false from hq))]; exact Ck.Gave.from hg (hfrom.out w' hbw)
            exact vH
          · exact zD6
    · rintro listed u w' t ht hu ⟨-, -, -, y0, y1, y2, y3, y4, y5, y6, hbw⟩ hall
      have v6 := hall 6 (by decide)
      have HBW2 := k0_ hbw
      have P2 := ((y6 v6).2)
      clear y0 y1 y2 y3 y4 y5 y6 v6 hall hu
      clear hbw
      simp only [over, List.setIfInBounds_toArray, List.set_cons_succ, List.set_cons_zero] at ht
      subst ht
      have hz := H1Z.out
      have hs4 := HBW.out.size
      have hs5 := HBW2.out.size
      have z2 := zC HBW2.out (zD H2.out) H2.out
      obtain ⟨x0, x1, f0, f1, xl⟩ := zM z2
      obtain ⟨u0, u1, g0, g1, ul⟩ := zM (zC HBW2.out (zD HX2.out) HX2.out)
      go_wp2_with fail
      have z3 := zT z2 (.int .i8 (rv.D.asr 3 a).1) (.slice Gr mr cr)
      obtain ⟨k0, k1, -, -, -⟩ := zM z3
      refine ⟨rfl, .agg #[.int .i8 (rv.D.asr 3 a).1, .slice Gr mr cr], by simp [results, Tryz.results104, go_sem, k0, k1], ?_⟩
      rw [HR.out, if_pos P1.out, if_pos P2]
      exact ⟨Gr, mr, cr, rfl, (Ck.Ly.set2 (LR.out.later HBW2.out) (fun b hq => hq.1.ne (by omega) (by omega)) _ _).weak (fun b _ hq => hq.1.out (by omega)), zL (hfrom.out _ HBW2.out) (by omega) _ _⟩
end Go.Proofs.YtgjemmmbnpkamaaGreatDoor
