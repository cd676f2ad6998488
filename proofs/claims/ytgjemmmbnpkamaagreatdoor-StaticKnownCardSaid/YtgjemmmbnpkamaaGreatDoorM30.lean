import Derived.Test.YtgjemmmbnpkamaaGreatDoorM28
namespace Go.Proofs.YtgjemmmbnpkamaaGreatDoor
open Go.RowKit
set_option maxHeartbeats 1500000 in
set_option maxRecDepth 100000 in
theorem zEB (rv : Cg.Rv) (Q : Nat → Prop) (h : Hd) (p : Pl) (a b c : Ck.T2) (Y n cap : Nat) (w : World) (hk : h.kind = 8) (hn : n = 3) (hR : Ck.Row Q w [a, b, c] Y) (hS : Shapes w) :
    Calls Tryz.prog 104 #[.agg (rF_ rv), .agg (tC_ h p), .slice (some ⟨Y, 0, none⟩) n cap] w (Ck.Post Q w (Cg.over rv.D h a b c)) := by
  try unfold tC_
  try unfold rF_
  rw [Cg.zDl _ _ _ _ _ hk]
  obtain ⟨Ga, ma, ca, a0, a1, aL⟩ := hR.cell 0 a rfl
  obtain ⟨Gb, mb, cb, b0, b1, bL⟩ := hR.cell 1 b rfl
  obtain ⟨Gc, mc, cc, c0, c1, cL⟩ := hR.cell 2 c rfl
  obtain ⟨w1, hw1, hB3, h0, h1, h2, hz⟩ := qN w (.cells (rF_ rv) 56) (.cells (tC_ h p) 28) (.cells #[.int .i8 0, .slice none 0 0] 25)
  have HW1 := k0_ hw1
  have HB3 := k0_ hB3
  have H0 := k0_ h0
  have H1 := k0_ h1
  have H2 := k0_ h2
  have HZ := k0_ hz
  have HAL : Hid (Ck.Ly (Ck.Cut Q w.heap.size (w.heap.size + 3)) w1 a Ga ma ca) := k0_ ((aL.weak (fun b hl hq => .inl ⟨hq, hl⟩)).later hB3)
  have HBL : Hid (Ck.Ly (Ck.Cut Q w.heap.size (w.heap.size + 3)) w1 b Gb mb cb) := k0_ ((bL.weak (fun b hl hq => .inl ⟨hq, hl⟩)).later hB3)
  have HCL : Hid (Ck.Ly (Ck.Cut Q w.heap.size (w.heap.size + 3)) w1 c Gc mc cc) := k0_ ((cL.weak (fun b hl hq => .inl ⟨hq, hl⟩)).later hB3)
  have HS := k0_ (hS.below hB3)
  have hfrom := k0_ (fun (W : World) (hb : Below w1.heap.size w1 W) => hB3.trans (hb.mono hB3.size))
  have HA := k0_ (And.intro (zB a0 hB3) (zB a1 hB3))
  have HB := k0_ (And.intro (zB b0 hB3) (zB b1 hB3))
  have HC := k0_ (And.intro (zB c0 hB3) (zB c1 hB3))
  have HK := k0_ (fun (W : World) (hb : Below w1.heap.size w1 W) => (show W.cell? ⟨w.heap.size, 0, none⟩ = some (.func (Fn.func rv.fr) #[] rv.cpt) ∧ W.cell? ⟨w.heap.size, 1, none⟩ = some (.func (Fn.func rv.fa) #[] #[]) ∧ W.cell? ⟨w.heap.size, 2, none⟩ = some (.func (Fn.func rv.fm) #[] #[]) ∧ W.cell? ⟨w.heap.size, 3, none⟩ = some (.func (Fn.func rv.ft) #[] #[]) ∧ W.cell? ⟨w.heap.size, 4, none⟩ = some rv.vg ∧ W.cell? ⟨w.heap.size + 1, 0, none⟩ = some (.int .i8 h.kind) ∧ W.cell? ⟨w.heap.size + 1, 1, none⟩ = some (.string h.name) ∧ W.cell? ⟨w.heap.size + 1, 2, none⟩ = some (.string h.arg) ∧ W.cell? ⟨w.heap.size + 1, 3, none⟩ = some (.int .i64 h.num) ∧ W.cell? ⟨w.heap.size + 1, 4, none⟩ = some (.int .i8 h.tk) ∧ W.cell? ⟨w.heap.size + 1, 5, none⟩ = some (.slice p.TA p.tn p.tc) ∧ W.cell? ⟨w.heap.size + 1, 6, none⟩ = some (.int .i8 h.uk) ∧ W.cell? ⟨w.heap.size + 1, 7, none⟩ = some (.slice p.UA p.un p.uc) ∧ W.cell? ⟨w.heap.size + 1, 8, none⟩ = some (.int .i64 h.label) ∧ W.cell? ⟨w.heap.size + 1, 9, none⟩ = some (.int .i64 h.pos) ∧ W.cell? ⟨w.heap.size + 1, 10, none⟩ = some (.slice p.A p.n p.c) ∧ W.cell? ⟨Y, 0, none⟩ = some (.int .i8 a.1) ∧ W.cell? ⟨Y, 1, none⟩ = some (.slice Ga ma ca) ∧ W.cell? ⟨Y, 2, none⟩ = some (.int .i8 b.1) ∧ W.cell? ⟨Y, 3, none⟩ = some (.slice Gb mb cb) ∧ W.cell? ⟨Y, 4, none⟩ = some (.int .i8 c.1) ∧ W.cell? ⟨Y, 5, none⟩ = some (.slice Gc mc cc) from by
    obtain ⟨r0, r1, r2, r3, r4, -⟩ := jI (zC hb (zD H0.out) H0.out)
    obtain ⟨q0, q1, q2, q3, q4, q5, q6, q7, q8, q9, q10, ql⟩ := zN (zC hb (zD H1.out) H1.out)
    exact ⟨r0, r1, r2, r3, r4, q0, q1, q2, q3, q4, q5, q6, q7, q8, q9, q10, zB HA.out.1 hb, zB HA.out.2 hb, zB HB.out.1 hb, zB HB.out.2 hb, zB HC.out.1 hb, zB HC.out.2 hb⟩))
  clear hR hS a0 a1 aL b0 b1 bL c0 c1 cL hB3 h0 h1 h2 hz
  subst hn
  have HKK := k0_ hk
  clear hk
  obtain ⟨R, hR⟩ : ∃ R, R = (if rv.D.ag a (2, .nil) = true then Cg.meet rv.D h b c else Ck.fault h 91) := ⟨_, rfl⟩
  rw [← hR]
  have HR := k0_ hR
  clear hR
  go_enter Tryz.func104, Tryz.ntmps104
  go_upto_region 1 with fail
  rw [← HW1.out]
  obtain ⟨r0, r1, r2, r3, r4, q0, q1, q2, q3, q4, q5, q6, q7, q8, q9, q10, y0, y1, y2, y3, y4, y5⟩ := HK.out w1 (Below.refl _ _)
  rw [HKK.out] at q0
  clear hw1
  go_upto_region 7 with fail
  clear r0 r1 r2 r3 r4 q0 q1 q2 q3 q4 q5 q6 q7 q8 q9 q10 y0 y1 y2 y3 y4 y5
  refine zO 170 rfl [40, 41, 42, 43, 44, 45, 46] (by kernel_rfl) (by kernel_rfl) (by kernel_rfl) (fun listed a' w' => a'.defers = [] ∧ a'.tmps.size = 170 ∧ (a'.eval (.tmp 2) = .slice (some ⟨Y, 0, none⟩) 3 cap ∧ a'.eval (.tmp 3) = .pointer (some ⟨w.heap.size, 0, none⟩) ∧ a'.eval (.tmp 4) = .pointer (some ⟨w.heap.size + 1, 0, none⟩) ∧ a'.eval (.tmp 6) = .pointer (some ⟨w.heap.size + 1 + 1, 0, none⟩)) ∧ (listed[0]? = some true → (a'.eval (.tmp 40) = .agg (rF_ rv))) ∧ (listed[1]? = some true → (a'.eval (.tmp 41) = .agg (tC_ h p))) ∧ (listed[2]? = some true → (a'.eval (.tmp 42) = .slice (some ⟨Y, 0, none⟩) 3 cap)) ∧ (listed[3]? = some true → (a'.eval (.tmp 43) = .pointer (some ⟨Y, 0, none⟩))) ∧ (listed[4]? = some true → (a'.eval (.tmp 44) = .agg #[.int .i8 a.1, .slice Ga ma ca])) ∧ (listed[5]? = some true → (a'.eval (.tmp 45) = .agg #[.int .i8 2, .slice none 0 0])) ∧ (listed[6]? = some true → (a'.eval (.tmp 46) = .tuple #[]) ∧ (rv.D.ag a (2, .nil) = true)) ∧ Below w1.heap.size w1 w') (fun _ _ _ h => h.1) ?_ ?_ ?_
  · have hz := HZ.out
    refine ⟨rfl, rfl, ⟨rfl, rfl, rfl, rfl⟩, FH, FH, FH, FH, FH, FH, FH, (Below.refl _ _).drew⟩
  · rintro listed a' w' i o ⟨hdf, hsz, hx, y0, y1, y2, y3, y4, y5, y6, hbw⟩ hz hsz0 ho hi hp
    have hi13 : i < 7 := by
      exact zAR
    rcases (by omega : i = 0 ∨ i = 1 ∨ i = 2 ∨ i = 3 ∨ i = 4 ∨ i = 5 ∨ i = 6) with rfl | rfl | rfl | rfl | rfl | rfl | rfl
    · obtain rfl := SI ho
      obtain ⟨c0, c1, c2, c3, c4, c5, c6, c7, c8, c9, c10, c11, c12, c13, c14, c15, c16, c17, c18, c19, c20, c21⟩ := HK.out w' hbw
      exact V_ ho 40 ⟨pd hdf, ps hsz, KX hx, (fun _ => pS hsz), K1 y1, K1 y2, K1 y3, K1 y4, K1 y5, K1 y6, hbw⟩
    · obtain rfl := SI ho
      obtain ⟨c0, c1, c2, c3, c4, c5, c6, c7, c8, c9, c10, c11, c12, c13, c14, c15, c16, c17, c18, c19, c20, c21⟩ := HK.out w' hbw
      exact V_ ho 41 ⟨pd hdf, ps hsz, KX hx, K1 y0, (fun _ => pS hsz), K1 y2, K1 y3, K1 y4, K1 y5, K1 y6, hbw⟩
    · obtain rfl := SI ho
      exact V_ ho 42 ⟨pd hdf, ps hsz, KX hx, K1 y0, K1 y1, (fun _ => pS hsz), K1 y3, K1 y4, K1 y5, K1 y6, hbw⟩
    · obtain rfl := SI ho
      have v2 := hpv hp 2 (by simp)
      have ww2 := (y2 v2)
      exact V_ ho 43 ⟨pd hdf, ps hsz, KX hx, K1 y0, K1 y1, K1 y2, (fun _ => pS hsz), K1 y4, K1 y5, K1 y6, hbw⟩
    · obtain rfl := SI ho
      have v3 := hpv hp 3 (by simp)
      have ww3 := (y3 v3)
      obtain ⟨c0, c1, c2, c3, c4, c5, c6, c7, c8, c9, c10, c11, c12, c13, c14, c15, c16, c17, c18, c19, c20, c21⟩ := HK.out w' hbw
      exact V_ ho 44 ⟨pd hdf, ps hsz, KX hx, K1 y0, K1 y1, K1 y2, K1 y3, (fun _ => pS hsz), K1 y5, K1 y6, hbw⟩
    · obtain rfl := SI ho
      refine C_ ho 45 (qf 2 none 0 0 w') fun e u hg => ?_
      · obtain ⟨he, hb⟩ := hg
        refine ⟨.agg #[.int .i8 2, .slice none 0 0], he, ?_⟩
        exact zGC
    · obtain rfl := SI ho
      have v0 := hpv hp 0 (by simp)
      have ww0 := (y0 v0)
      have v1 := hpv hp 1 (by simp)
      have ww1 := (y1 v1)
      have v4 := hpv hp 4 (by simp)
      have ww4 := (y4 v4)
      have v5 := hpv hp 5 (by simp)
      have ww5 := (y5 v5)
      refine M_ ho 46 (qA rv h p a.1 a.2 Ga ma ca 2 .nil none 0 0 w' (HAL.out.later hbw).is (jy (by decide) w') (HS.out.below hbw)) fun e u hg => ?_
      · rcases hg with ⟨hq, hg⟩ | ⟨hq, hg⟩
        · have HP : Ck.Post Q w R e u := by rw [HR.out, if_neg (zY (show rv.D.ag a (2, .nil) = false from hq))]; exact Ck.Gave.from hg (hfrom.out w' hbw)
          exact vH
        · exact zD6
  · rintro listed u w' t ht hu ⟨-, -, -, y0, y1, y2, y3, y4, y5, y6, hbw⟩ hall
    have v6 := hall 6 (by decide)
    have HBW := k0_ hbw
    have P1 := k0_ ((y6 v6).2)
    clear y0 y1 y2 y3 y4 y5 y6 v6 hall hu
    clear hbw
    simp only [over, List.setIfInBounds_toArray, List.set_cons_succ, List.set_cons_zero] at ht
    subst ht
    obtain ⟨r0, r1, r2, r3, r4, q0, q1, q2, q3, q4, q5, q6, q7, q8, q9, q10, y0, y1, y2, y3, y4, y5⟩ := HK.out w' HBW.out
    go_upto_region 8 with fail
    clear r0 r1 r2 r3 r4 q0 q1 q2 q3 q4 q5 q6 q7 q8 q9 q10 y0 y1 y2 y3 y4 y5
    refine zO 170 rfl [47, 48, 49, 50, 51, 52, 53, 54, 55] (by kernel_rfl) (by kernel_rfl) (by kernel_rfl) (fun listed a' w' => a'.defers = [] ∧ a'.tmps.size = 170 ∧ (a'.eval (.tmp 2) = .slice (some ⟨Y, 0, none⟩) 3 cap ∧ a'.eval (.tmp 3) = .pointer (some ⟨w.heap.size, 0, none⟩) ∧ a'.eval (.tmp 4) = .pointer (some ⟨w.heap.size + 1, 0, none⟩) ∧ a'.eval (.tmp 6) = .pointer (some ⟨w.heap.size + 1 + 1, 0, none⟩)) ∧ ∃ G mg cg, (listed[0]? = some true → (a'.eval (.tmp 47) = .agg (rF_ rv))) ∧ (listed[1]? = some true → (a'.eval (.tmp 48) = .agg (tC_ h p))) ∧ (listed[2]? = some true → (a'.eval (.tmp 49) = .slice (some ⟨Y, 0, none⟩) 3 cap)) ∧ (listed[3]? = some true → (a'.eval (.tmp 50) = .pointer (some ⟨Y, 2, none⟩)) ∧ (listed[2]? = some true)) ∧ (listed[4]? = some true → (a'.eval (.tmp 51) = .agg #[.int .i8 b.1, .slice Gb mb cb]) ∧ (listed[2]? = some true) ∧ (listed[3]? = some true)) ∧ (listed[5]? = some true → (a'.eval (.tmp 52) = .slice (some ⟨Y, 0, none⟩) 3 cap)) ∧ (listed[6]? = some true → (a'.eval (.tmp 53) = .pointer (some ⟨Y, 4, none⟩)) ∧ (listed[5]? = some true)) ∧ (listed[7]? = some true → (a'.eval (.tmp 54) = .agg #[.int .i8 c.1, .slice Gc mc cc]) ∧ (listed[5]? = some true) ∧ (listed[6]? = some true)) ∧ (listed[8]? = some true → (a'.eval (.tmp 55) = .agg #[.int .i8 (rv.D.mt b c).1, .slice G mg cg]) ∧ (listed[0]? = some true) ∧ (listed[1]? = some true) ∧ (listed[2]? = some true) ∧ (listed[3]? = some true) ∧ (listed[4]? = some true) ∧ (listed[5]? = some true) ∧ (listed[6]? = some true) ∧ (listed[7]? = some true) ∧ (rv.D.ag b c = true) ∧ (Ck.Ly (Ck.Cut Q w.heap.size (w.heap.size + 3)) w' (rv.D.mt b c) G mg cg)) ∧ (listed[9]? = some true → (listed[0]? = some true) ∧ (listed[1]? = some true) ∧ (listed[2]? = some true) ∧ (listed[3]? = some true) ∧ (listed[4]? = some true) ∧ (listed[5]? = some true) ∧ (listed[6]? = some true) ∧ (listed[7]? = some true) ∧ (listed[8]? = some true) ∧ (w'.heap[w.heap.size + 1 + 1]? = some (.cells #[.int .i8 (rv.D.mt b c).1, .slice G mg cg] 25 (0, 0))) ∧ (Below w.heap.size w w')) ∧ (listed[9]? = some false → Below w1.heap.size w1 w')) (fun _ _ _ h => h.1) ?_ ?_ ?_
    · have hz := HZ.out
      refine ⟨rfl, rfl, ⟨rfl, rfl, rfl, rfl⟩, none, 0, 0, FH, FH, FH, FH, FH, FH, FH, FH, FH, FH, (fun _ => HBW.out.drew)⟩
    · rintro listed a' w' i o ⟨hdf, hsz, hx, G, mg, cg, y0, y1, y2, y3, y4, y5, y6, y7, y8, y9, hbw⟩ hz hsz0 ho hi hp
      have hi13 : i < 10 := by
        rcases Nat.lt_or_ge i 10 with q | q
        · exact q
        · exact ve
      rcases (by omega : i = 0 ∨ i = 1 ∨ i = 2 ∨ i = 3 ∨ i = 4 ∨ i = 5 ∨ i = 6 ∨ i = 7 ∨ i = 8 ∨ i = 9) with rfl | rfl | rfl | rfl | rfl | rfl | rfl | rfl | rfl | rfl
      · obtain rfl := SI ho
        have hbu := hbw
        have hbw := hbw (nf (by rw [hz]; decide) (fun q => (y9 q).1) hi)
        obtain ⟨c0, c1, c2, c3, c4, c5, c6, c7, c8, c9, c10, c11, c12, c13, c14, c15, c16, c17, c18, c19, c20, c21⟩ := HK.out w' hbw
        exact V_ ho 47 ⟨pd hdf, ps hsz, KX hx, G, mg, cg, (fun _ => pS hsz), K1 y1, K1 y2, K1 y3, K1 y4, K1 y5, K1 y6, K1 y7, KN y8, KN y9, (kU hbu id)⟩
      · obtain rfl := SI ho
        have hbu := hbw
        have hbw := hbw (nf (by rw [hz]; decide) (fun q => (y9 q).2.1) hi)
        obtain ⟨c0, c1, c2, c3, c4, c5, c6, c7, c8, c9, c10, c11, c12, c13, c14, c15, c16, c17, c18, c19, c20, c21⟩ := HK.out w' hbw
        exact V_ ho 48 ⟨pd hdf, ps hsz, KX hx, G, mg, cg, K1 y0, (fun _ => pS hsz), K1 y2, K1 y3, K1 y4, K1 y5, K1 y6, K1 y7, KN y8, KN y9, (kU hbu id)⟩
      · obtain rfl := SI ho
        exact V_ ho 49 ⟨pd hdf, ps hsz, KX hx, G, mg, cg, K1 y0, K1 y1, (fun _ => pS hsz), KN y3, KN y4, K1 y5, K1 y6, K1 y7, KN y8, KN y9, (kU hbw id)⟩
      · obtain rfl := SI ho
        have v2 := hpv hp 2 (by simp)
        have ww2 := (y2 v2)
        exact V_ ho 50 ⟨pd hdf, ps hsz, KX hx, G, mg, cg, K1 y0, K1 y1, K1 y2, (fun _ => ⟨pS hsz, (zA v2)⟩), KN y4, K1 y5, K1 y6, K1 y7, KN y8, KN y9, (kU hbw id)⟩
      · obtain rfl := SI ho
        have v3 := hpv hp 3 (by simp)
        have ww3 := (y3 v3).1
        have hbu := hbw
        have hbw := hbw (nf (by rw [hz]; decide) (fun q => (y9 q).2.2.2.2.1) hi)
        obtain ⟨c0, c1, c2, c3, c4, c5, c6, c7, c8, c9, c10, c11, c12, c13, c14, c15, c16, c17, c18, c19, c20, c21⟩ := HK.out w' hbw
        exact V_ ho 51 ⟨pd hdf, ps hsz, KX hx, G, mg, cg, K1 y0, K1 y1, K1 y2, K1 y3, (fun _ => ⟨pS hsz, (zA ((y3 v3).2)), (zA v3)⟩), K1 y5, K1 y6, K1 y7, KN y8, KN y9, (kU hbu id)⟩
      · obtain rfl := SI ho
        exact V_ ho 52 ⟨pd hdf, ps hsz, KX hx, G, mg, cg, K1 y0, K1 y1, K1 y2, K1 y3, K1 y4, (fun _ => pS hsz), KN y6, KN y7, KN y8, KN y9, (kU hbw id)⟩
      · obtain rfl := SI ho
        have v5 := hpv hp 5 (by simp)
        have ww5 := (y5 v5)
        exact V_ ho 53 ⟨pd hdf, ps hsz, KX hx, G, mg, cg, K1 y0, K1 y1, K1 y2, K1 y3, K1 y4, K1 y5, (fun _ => ⟨pS hsz, (zA v5)⟩), KN y7, KN y8, KN y9, (kU hbw id)⟩
      · obtain rfl := SI ho
        have v6 := hpv hp 6 (by simp)
        have ww6 := (y6 v6).1
        have hbu := hbw
        have hbw := hbw (nf (by rw [hz]; decide) (fun q => (y9 q).2.2.2.2.2.2.2.1) hi)
        obtain ⟨c0, c1, c2, c3, c4, c5, c6, c7, c8, c9, c10, c11, c12, c13, c14, c15, c16, c17, c18, c19, c20, c21⟩ := HK.out w' hbw
        exact V_ ho 54 ⟨pd hdf, ps hsz, KX hx, G, mg, cg, K1 y0, K1 y1, K1 y2, K1 y3, K1 y4, K1 y5, K1 y6, (fun _ => ⟨pS hsz, (zA ((y6 v6).2)), (zA v6)⟩), KN y8, KN y9, (kU hbu id)⟩
      · obtain rfl := SI ho
        have v0 := hpv hp 0 (by simp)
        have ww0 := (y0 v0)
        have v1 := hpv hp 1 (by simp)
        have ww1 := (y1 v1)
        have v4 := hpv hp 4 (by simp)
        have ww4 := (y4 v4).1
        have v7 := hpv hp 7 (by simp)
        have ww7 := (y7 v7).1
        have hbw := hbw (nf (by rw [hz]; decide) (fun q => (y9 q).2.2.2.2.2.2.2.2.1) hi)
        refine M_ ho 55 (xI rv (Ck.Cut Q w.heap.size (w.heap.size + 3)) h p b Gb mb cb c Gc mc cc w' (HBL.out.later hbw) (HCL.out.later hbw) (HS.out.below hbw)) fun e u hg => ?_
        · rcases hg with ⟨hq, hg⟩ | ⟨hq, hg⟩
          · have HP : Ck.Post Q w R e u := by rw [HR.out, if_pos P1.out]; unfold Cg.meet; rw [if_neg (zY (show rv.D.ag b c = false from hq))]; exact Ck.Gave.from hg (hfrom.out w' hbw)
            exact vH
          · obtain ⟨G', mg', cg', rfl, hl, hb⟩ := hg
            refine .inl ?_
            refine ⟨.agg #[.int .i8 (rv.D.mt b c).1, .slice G' mg' cg'], rfl, ?_⟩
            have hbs := hbw.size
            have hzz := HZ.out
            have hbs2 := hb.size
            exact ⟨pd hdf, ps hsz, KX hx, G', mg', cg', K1 y0, K1 y1, K1 y2, K1 y3, K1 y4, K1 y5, K1 y6, K1 y7, (fun _ => ⟨pS hsz, (zA v0), (zA v1), (zA ((y4 v4).2.1)), (zA ((y4 v4).2.2)), (zA v4), (zA ((y7 v7).2.1)), (zA ((y7 v7).2.2)), (zA v7), hq, Ck.Ly.weak (a := rv.D.mt b c) hl (fun _ _ hq => Ck.Cut.in (by omega) hq)⟩), KN y9, (fun _ => hbw.trans (hb.mono hbw.size))⟩
      · obtain rfl := SI ho
        have v8 := hpv hp 8 (by simp)
        have ww8 := (y8 v8).1
        have hbw := hbw hi
        have hbox := zC hbw (zD H2.out) H2.out
        obtain ⟨bc0, bc1, bf0, bf1, -⟩ := zM hbox
        refine zW ho rfl (zx rfl (w2 := (w'.setCell ⟨w.heap.size + 1 + 1, 0, none⟩ (.int .i8 (rv.D.mt b c).1)).setCell ⟨w.heap.size + 1 + 1, 1, none⟩ (.slice G mg cg)) ?_ ?_)
        · exact EV
        · have hsa : ((w'.setCell ⟨w.heap.size + 1 + 1, 0, none⟩ (.int .i8 (rv.D.mt b c).1)).setCell ⟨w.heap.size + 1 + 1, 1, none⟩ (.slice G mg cg)).heap.size = w'.heap.size := by simp
          have hbs := hbw.size
          have hzz := HZ.out
          exact ⟨hdf, hsz, hx, G, mg, cg, K1 y0, K1 y1, K1 y2, K1 y3, K1 y4, K1 y5, K1 y6, K1 y7, K1 y8, (fun _ => ⟨(zA ((y8 v8).2.1)), (zA ((y8 v8).2.2.1)), (zA ((y8 v8).2.2.2.1)), (zA ((y8 v8).2.2.2.2.1)), (zA ((y8 v8).2.2.2.2.2.1)), (zA ((y8 v8).2.2.2.2.2.2.1)), (zA ((y8 v8).2.2.2.2.2.2.2.1)), (zA ((y8 v8).2.2.2.2.2.2.2.2.1)), (zA v8), zT hbox _ _, zL (hfrom.out w' hbw) (by omega) _ _⟩), (fun qu => (zS qu).elim)⟩
    · rintro listed u w' t ht hu ⟨-, -, -, G, mg, cg, y0, y1, y2, y3, y4, y5, y6, y7, y8, y9, hbw⟩ hall
      have v8 := hall 8 (by decide)
      have v9 := hall 9 (by decide)
      have HBX := k0_ ((y9 v9).2.2.2.2.2.2.2.2.2.2)
      have P2 := ((y8 v8).2.2.2.2.2.2.2.2.2.1)
      have hl := ((y8 v8).2.2.2.2.2.2.2.2.2.2)
      have hx := ((y9 v9).2.2.2.2.2.2.2.2.2.1)
      clear y0 y1 y2 y3 y4 y5 y6 y7 y8 y9 v8 v9 hall hu
      clear hbw
      simp only [over, List.setIfInBounds_toArray, List.set_cons_succ, List.set_cons_zero] at ht
      subst ht
      obtain ⟨k0, k1, -, -, -⟩ := zM hx
      have hz := HZ.out
      go_wp2_with fail
      refine ⟨rfl, .agg #[.int .i8 (rv.D.mt b c).1, .slice G mg cg], by simp [results, Tryz.results104, go_sem, k0, k1], ?_⟩
      rw [HR.out, if_pos P1.out]; unfold Cg.meet; rw [if_pos P2]
      exact ⟨G, mg, cg, rfl, hl.weak (fun b _ hq => hq.out (by omega)), HBX.out⟩
end Go.Proofs.YtgjemmmbnpkamaaGreatDoor
namespace Go.Proofs.YtgjemmmbnpkamaaGreatDoor
set_option maxHeartbeats 4000000
set_option maxRecDepth 100000
open Go.RowKit
theorem zCs (rv : Cg.Rv) (Q : Nat → Prop) (h : Hd) (p : Pl) (a : Ck.T2) (Y n cap : Nat) (w : World) (hk : h.kind = 12) (hn : n = 1) (hR : Ck.Row Q w [a] Y) (hS : Shapes w) (hT : Ck.Ly Q w (Ck.TT h) p.TA p.tn p.tc) (hokT : Ty.okT (Ck.TT h).1 (Ck.TT h).2 = true) :
    Calls Tryz.prog 104 #[.agg (rF_ rv), .agg (tC_ h p), .slice (some ⟨Y, 0, none⟩) n cap] w (Ck.Post Q w (Cg.over rv.D h a (0, .nil) (0, .nil))) := by
  try unfold tC_
  try unfold rF_
  rw [Cg.zBl _ _ _ _ _ hk]
  obtain ⟨Ga, ma, ca, a0, a1, aL⟩ := hR.cell 0 a rfl
  obtain ⟨w1, hw1, hB3, h0, h1, h2, hz⟩ := qN w (.cells (rF_ rv) 56) (.cells (tC_ h p) 28) (.cells #[.int .i8 0, .slice none 0 0] 25)
  have HW1 := k0_ hw1
  have HB3 := k0_ hB3
  have H0 := k0_ h0
  have H1 := k0_ h1
  have H2 := k0_ h2
  have HZ := k0_ hz
  have HAL : Hid (Ck.Ly (Ck.Cut Q w.heap.size (w.heap.size + 3)) w1 a Ga ma ca) := k0_ ((aL.weak (fun b hl hq => .inl ⟨hq, hl⟩)).later hB3)
  have HS := k0_ (hS.below hB3)
  have hfrom := k0_ (fun (W : World) (hb : Below w1.heap.size w1 W) => hB3.trans (hb.mono hB3.size))
  have HA := k0_ (And.intro (zB a0 hB3) (zB a1 hB3))
  have HK := k0_ (fun (W : World) (hb : Below w1.heap.size w1 W) => (show W.cell? ⟨w.heap.size, 0, none⟩ = some (.func (Fn.func rv.fr) #[] rv.cpt) ∧ W.cell? ⟨w.heap.size, 1, none⟩ = some (.func (Fn.func rv.fa) #[] #[]) ∧ W.cell? ⟨w.heap.size, 2, none⟩ = some (.func (Fn.func rv.fm) #[] #[]) ∧ W.cell? ⟨w.heap.size, 3, none⟩ = some (.func (Fn.func rv.ft) #[] #[]) ∧ W.cell? ⟨w.heap.size, 4, none⟩ = some rv.vg ∧ W.cell? ⟨w.heap.size + 1, 0, none⟩ = some (.int .i8 h.kind) ∧ W.cell? ⟨w.heap.size + 1, 1, none⟩ = some (.string h.name) ∧ W.cell? ⟨w.heap.size + 1, 2, none⟩ = some (.string h.arg) ∧ W.cell? ⟨w.heap.size + 1, 3, none⟩ = some (.int .i64 h.num) ∧ W.cell? ⟨w.heap.size + 1, 4, none⟩ = some (.int .i8 h.tk) ∧ W.cell? ⟨w.heap.size + 1, 5, none⟩ = some (.slice p.TA p.tn p.tc) ∧ W.cell? ⟨w.heap.size + 1, 6, none⟩ = some (.int .i8 h.uk) ∧ W.cell? ⟨w.heap.size + 1, 7, none⟩ = some (.slice p.UA p.un p.uc) ∧ W.cell? ⟨w.heap.size + 1, 8, none⟩ = some (.int .i64 h.label) ∧ W.cell? ⟨w.heap.size + 1, 9, none⟩ = some (.int .i64 h.pos) ∧ W.cell? ⟨w.heap.size + 1, 10, none⟩ = some (.slice p.A p.n p.c) ∧ W.cell? ⟨Y, 0, none⟩ = some (.int .i8 a.1) ∧ W.cell? ⟨Y, 1, none⟩ = some (.slice Ga ma ca) from by
    obtain ⟨r0, r1, r2, r3, r4, -⟩ := jI (zC hb (zD H0.out) H0.out)
    obtain ⟨q0, q1, q2, q3, q4, q5, q6, q7, q8, q9, q10, ql⟩ := zN (zC hb (zD H1.out) H1.out)
    exact ⟨r0, r1, r2, r3, r4, q0, q1, q2, q3, q4, q5, q6, q7, q8, q9, q10, zB HA.out.1 hb, zB HA.out.2 hb⟩))
  clear hR hS a0 a1 aL hB3 h0 h1 h2 hz
  subst hn
  have HKK := k0_ hk
  clear hk
  have HT : Hid (Ck.Ly (Ck.Cut Q w.heap.size (w.heap.size + 3)) w1 (Ck.TT h) p.TA p.tn p.tc) := k0_ ((hT.weak (fun b hl hq => .inl ⟨hq, hl⟩)).later HB3.out)
  clear hT
  obtain ⟨R, hR⟩ : ∃ R, R = (if rv.D.asO 5 (Ck.TT h) = true then (if rv.D.ag a (rv.D.asl 5 (Ck.TT h)) = true then .ok (Ck.mk2 5 (rv.D.asl 5 (Ck.TT h)) (rv.D.asr 5 (Ck.TT h))) else Ck.fault h 91) else Ck.fault h 90) := ⟨_, rfl⟩
  rw [← hR]
  have HR := k0_ hR
  clear hR
  go_enter Tryz.func104, Tryz.ntmps104
  go_upto_region 1 with fail
  rw [← HW1.out]
  obtain ⟨r0, r1, r2, r3, r4, q0, q1, q2, q3, q4, q5, q6, q7, q8, q9, q10, y0, y1⟩ := HK.out w1 (Below.refl _ _)
  rw [HKK.out] at q0
  clear hw1
  go_upto_region 18 with fail
  have CP := k0_ (qW rv (Ck.Cut Q w.heap.size (w.heap.size + 3)) h p 5 (Ck.TT h) p.TA p.tn p.tc w1 (by decide) HT.out hokT HS.out)
  try unfold tC_ at CP
  rw [HKK.out] at CP
  clear hokT
  go_wp2_with fail
  refine CP.out.mono ?_
  rintro e w2 hg
  rcases hg with ⟨hq, hg⟩ | ⟨hq, hg⟩
  · exact zGl
  · obtain ⟨G1, m1, c1, G2, m2, c2, rfl, hl1, hl2, hb⟩ := hg
    clear r0 r1 r2 r3 r4 q0 q1 q2 q3 q4 q5 q6 q7 q8 q9 q10 y0 y1
    have hl1 := Ck.Ly.weak (Q' := Ck.Cut Q w.heap.size (w.heap.size + 3)) (a := (rv.D.asl 5 (Ck.TT h))) hl1 (fun b _ hq => Ck.Cut.in (by have := HZ.out; omega) hq)
    have hl2 := Ck.Ly.weak (Q' := Ck.Cut Q w.heap.size (w.heap.size + 3)) (a := (rv.D.asr 5 (Ck.TT h))) hl2 (fun b _ hq => Ck.Cut.in (by have := HZ.out; omega) hq)
    have HQ1 := k0_ (show rv.D.asO 5 (Ck.TT h) = true from hq)
    have hz2 := hb.size
    obtain ⟨x1, x2⟩ := qz w2 (.cells #[.int .i8 (rv.D.asl 5 (Ck.TT h)).1, .slice G1 m1 c1] 25) (.cells #[.int .i8 (rv.D.asr 5 (Ck.TT h)).1, .slice G2 m2 c2] 25)
    have hb2 := qg w2 (.cells #[.int .i8 (rv.D.asl 5 (Ck.TT h)).1, .slice G1 m1 c1] 25) (.cells #[.int .i8 (rv.D.asr 5 (Ck.TT h)).1, .slice G2 m2 c2] 25)
    have HX1 := k0_ x1
    have HX2 := k0_ x2
    have HL1 := k0_ (Ck.Ly.later (a := (rv.D.asl 5 (Ck.TT h))) hl1 hb2)
    have HL2 := k0_ (Ck.Ly.later (a := (rv.D.asr 5 (Ck.TT h))) hl2 hb2)
    have HBW := k0_ (hb.trans (hb2.mono hb.size))
    have H1Z := k0_ (show w1.heap.size = w.heap.size + 3 from HZ.out)
    clear hl1 hl2 x1 x2 hb hb2 hq
    go_upto_region 19 with fail
    generalize hw4 : (w2.alloc (.cells #[.int .i8 (rv.D.asl 5 (Ck.TT h)).1, .slice G1 m1 c1] 25)).alloc (.cells #[.int .i8 (rv.D.asr 5 (Ck.TT h)).1, .slice G2 m2 c2] 25) = w4 at *
    clear hw4
    generalize w2.heap.size = S2 at *
    have HZ' := k0_ (show w.heap.size + 3 ≤ w4.heap.size from by have h1 := HZ.out; have h2 := HBW.out.size; omega)
    have hs2 : w.heap.size + 3 ≤ S2 := by have h1 := HZ.out; omega
    clear HZ
    have HZ := HZ'
    clear HZ'
    have HK := k0_ (fun (W : World) (hb : Below w4.heap.size w4 W) => HK.out W (HBW.out.trans (hb.mono HBW.out.size)))
    have hfrom := k0_ (fun (W : World) (hb : Below w4.heap.size w4 W) => hfrom.out W (HBW.out.trans (hb.mono HBW.out.size)))
    have HAL := k0_ (HAL.out.later HBW.out)
    have HS := k0_ (HS.out.below HBW.out)
    have H2 := k0_ (zC HBW.out (zD H2.out) H2.out)
    refine zO 170 rfl [94, 95, 96, 97, 98, 99, 100] (by kernel_rfl) (by kernel_rfl) (by kernel_rfl) (fun listed a' w' => a'.defers = [] ∧ a'.tmps.size = 170 ∧ (a'.eval (.tmp 2) = .slice (some ⟨Y, 0, none⟩) 1 cap ∧ a'.eval (.tmp 3) = .pointer (some ⟨w.heap.size, 0, none⟩) ∧ a'.eval (.tmp 4) = .pointer (some ⟨w.heap.size + 1, 0, none⟩) ∧ a'.eval (.tmp 6) = .pointer (some ⟨w.heap.size + 1 + 1, 0, none⟩) ∧ a'.eval (.tmp 13) = .pointer (some ⟨S2, 0, none⟩) ∧ a'.eval (.tmp 14) = .pointer (some ⟨S2 + 1, 0, none⟩)) ∧ (listed[0]? = some true → (a'.eval (.tmp 94) = .agg (rF_ rv))) ∧ (listed[1]? = some true → (a'.eval (.tmp 95) = .agg (tC_ h p))) ∧ (listed[2]? = some true → (a'.eval (.tmp 96) = .slice (some ⟨Y, 0, none⟩) 1 cap)) ∧ (listed[3]? = some true → (a'.eval (.tmp 97) = .pointer (some ⟨Y, 0, none⟩))) ∧ (listed[4]? = some true → (a'.eval (.tmp 98) = .agg #[.int .i8 a.1, .slice Ga ma ca])) ∧ (listed[5]? = some true → (a'.eval (.tmp 99) = .agg #[.int .i8 (rv.D.asl 5 (Ck.TT h)).1, .slice G1 m1 c1])) ∧ (listed[6]? = some true → (a'.eval (.tmp 100) = .tuple #[]) ∧ (rv.D.ag a (rv.D.asl 5 (Ck.TT h)) = true)) ∧ Below w4.heap.size w4 w') (fun _ _ _ h => h.1) ?_ ?_ ?_
    · exact zG8
    · rintro listed a' w' i o ⟨hdf, hsz, hx, y0, y1, y2, y3, y4, y5, y6, hbw⟩ hz hsz0 ho hi hp
      have hi13 : i < 7 := by
        exact zAR
      rcases (by omega : i = 0 ∨ i = 1 ∨ i = 2 ∨ i = 3 ∨ i = 4 ∨ i = 5 ∨ i = 6) with rfl | rfl | rfl | rfl | rfl | rfl | rfl
      · obtain rfl := SI ho
        obtain ⟨c0, c1, c2, c3, c4, c5, c6, c7, c8, c9, c10, c11, c12, c13, c14, c15, c16, c17⟩ := HK.out w' hbw
        exact V_ ho 94 ⟨pd hdf, ps hsz, KX hx, (fun _ => pS hsz), K1 y1, K1 y2, K1 y3, K1 y4, K1 y5, K1 y6, hbw⟩
      · obtain rfl := SI ho
        obtain ⟨c0, c1, c2, c3, c4, c5, c6, c7, c8, c9, c10, c11, c12, c13, c14, c15, c16, c17⟩ := HK.out w' hbw
        exact V_ ho 95 ⟨pd hdf, ps hsz, KX hx, K1 y0, (fun _ => pS hsz), K1 y2, K1 y3, K1 y4, K1 y5, K1 y6, hbw⟩
      · obtain rfl := SI ho
        exact V_ ho 96 ⟨pd hdf, ps hsz, KX hx, K1 y0, K1 y1, (fun _ => pS hsz), K1 y3, K1 y4, K1 y5, K1 y6, hbw⟩
      · obtain rfl := SI ho
        have v2 := hpv hp 2 (by simp)
        have ww2 := (y2 v2)
        exact V_ ho 97 ⟨pd hdf, ps hsz, KX hx, K1 y0, K1 y1, K1 y2, (fun _ => pS hsz), K1 y4, K1 y5, K1 y6, hbw⟩
      · obtain rfl := SI ho
        have v3 := hpv hp 3 (by simp)
        have ww3 := (y3 v3)
        obtain ⟨c0, c1, c2, c3, c4, c5, c6, c7, c8, c9, c10, c11, c12, c13, c14, c15, c16, c17⟩ := HK.out w' hbw
        exact V_ ho 98 ⟨pd hdf, ps hsz, KX hx, K1 y0, K1 y1, K1 y2, K1 y3, (fun _ => pS hsz), K1 y5, K1 y6, hbw⟩
      · obtain rfl := SI ho
        obtain ⟨e0, e1, -, -, -⟩ := zM (zC hbw (zD HX1.out) HX1.out)
        exact V_ ho 99 ⟨pd hdf, ps hsz, KX hx, K1 y0, K1 y1, K1 y2, K1 y3, K1 y4, (fun _ => pS hsz), K1 y6, hbw⟩
      · obtain rfl := SI ho
        have v0 := hpv hp 0 (by simp)
        have ww0 := (y0 v0)
        have v1 := hpv hp 1 (by simp)
        have ww1 := (y1 v1)
        have v4 := hpv hp 4 (by simp)
        have ww4 := (y4 v4)
        have v5 := hpv hp 5 (by simp)
        have ww5 := (y5 v5)
        refine M_ ho 100 (qA rv h p a.1 a.2 Ga ma ca (rv.D.asl 5 (Ck.TT h)).1 (rv.D.asl 5 (Ck.TT h)).2 G1 m1 c1 w' (HAL.out.later hbw).is (HL1.out.later hbw).is (HS.out.below hbw)) fun e u hg => ?_
        · rcases hg with ⟨hq, hg⟩ | ⟨hq, hg⟩
          · have HP : Ck.Post Q w R e u := by rw [HR.out, if_pos HQ1.out, if_neg (zY (show rv.D.ag a (rv.D.asl 5 (Ck.TT h)) = false from hq))]; exact Ck.Gave.from hg (hfrom.out w' hbw)
            exact vH
          · exact zD6
    · exact c7_
theorem zCr (rv : Cg.Rv) (Q : Nat → Prop) (h : Hd) (p : Pl) (a : Ck.T2) (Y n cap : Nat) (w : World) (hk : h.kind = 13) (hn : n = 1) (hR : Ck.Row Q w [a] Y) (hS : Shapes w) (hT : Ck.Ly Q w (Ck.TT h) p.TA p.tn p.tc) (hokT : Ty.okT (Ck.TT h).1 (Ck.TT h).2 = true) :
    Calls Tryz.prog 104 #[.agg (rF_ rv), .agg (tC_ h p), .slice (some ⟨Y, 0, none⟩) n cap] w (Ck.Post Q w (Cg.over rv.D h a (0, .nil) (0, .nil))) := by
  try unfold tC_
  try unfold rF_
  rw [Cg.zBk _ _ _ _ _ hk]
  obtain ⟨Ga, ma, ca, a0, a1, aL⟩ := hR.cell 0 a rfl
  obtain ⟨w1, hw1, hB3, h0, h1, h2, hz⟩ := qN w (.cells (rF_ rv) 56) (.cells (tC_ h p) 28) (.cells #[.int .i8 0, .slice none 0 0] 25)
  have HW1 := k0_ hw1
  have HB3 := k0_ hB3
  have H0 := k0_ h0
  have H1 := k0_ h1
  have H2 := k0_ h2
  have HZ := k0_ hz
  have HAL : Hid (Ck.Ly (Ck.Cut Q w.heap.size (w.heap.size + 3)) w1 a Ga ma ca) := k0_ ((aL.weak (fun b hl hq => .inl ⟨hq, hl⟩)).later hB3)
  have HS := k0_ (hS.below hB3)
  have hfrom := k0_ (fun (W : World) (hb : Below w1.heap.size w1 W) => hB3.trans (hb.mono hB3.size))
  have HA := k0_ (And.intro (zB a0 hB3) (zB a1 hB3))
  have HK := k0_ (fun (W : World) (hb : Below w1.heap.size w1 W) => (show W.cell? ⟨w.heap.size, 0, none⟩ = some (.func (Fn.func rv.fr) #[] rv.cpt) ∧ W.cell? ⟨w.heap.size, 1, none⟩ = some (.func (Fn.func rv.fa) #[] #[]) ∧ W.cell? ⟨w.heap.size, 2, none⟩ = some (.func (Fn.func rv.fm) #[] #[]) ∧ W.cell? ⟨w.heap.size, 3, none⟩ = some (.func (Fn.func rv.ft) #[] #[]) ∧ W.cell? ⟨w.heap.size, 4, none⟩ = some rv.vg ∧ W.cell? ⟨w.heap.size + 1, 0, none⟩ = some (.int .i8 h.kind) ∧ W.cell? ⟨w.heap.size + 1, 1, none⟩ = some (.string h.name) ∧ W.cell? ⟨w.heap.size + 1, 2, none⟩ = some (.string h.arg) ∧ W.cell? ⟨w.heap.size + 1, 3, none⟩ = some (.int .i64 h.num) ∧ W.cell? ⟨w.heap.size + 1, 4, none⟩ = some (.int .i8 h.tk) ∧ W.cell? ⟨w.heap.size + 1, 5, none⟩ = some (.slice p.TA p.tn p.tc) ∧ W.cell? ⟨w.heap.size + 1, 6, none⟩ = some (.int .i8 h.uk) ∧ W.cell? ⟨w.heap.size + 1, 7, none⟩ = some (.slice p.UA p.un p.uc) ∧ W.cell? ⟨w.heap.size + 1, 8, none⟩ = some (.int .i64 h.label) ∧ W.cell? ⟨w.heap.size + 1, 9, none⟩ = some (.int .i64 h.pos) ∧ W.cell? ⟨w.heap.size + 1, 10, none⟩ = some (.slice p.A p.n p.c) ∧ W.cell? ⟨Y, 0, none⟩ = some (.int .i8 a.1) ∧ W.cell? ⟨Y, 1, none⟩ = some (.slice Ga ma ca) from by
    obtain ⟨r0, r1, r2, r3, r4, -⟩ := jI (zC hb (zD H0.out) H0.out)
    obtain ⟨q0, q1, q2, q3, q4, q5, q6, q7, q8, q9, q10, ql⟩ := zN (zC hb (zD H1.out) H1.out)
    exact ⟨r0, r1, r2, r3, r4, q0, q1, q2, q3, q4, q5, q6, q7, q8, q9, q10, zB HA.out.1 hb, zB HA.out.2 hb⟩))
  clear hR hS a0 a1 aL hB3 h0 h1 h2 hz
  subst hn
  have HKK := k0_ hk
  clear hk
  have HT : Hid (Ck.Ly (Ck.Cut Q w.heap.size (w.heap.size + 3)) w1 (Ck.TT h) p.TA p.tn p.tc) := k0_ ((hT.weak (fun b hl hq => .inl ⟨hq, hl⟩)).later HB3.out)
  clear hT
  obtain ⟨R, hR⟩ : ∃ R, R = (if rv.D.asO 5 (Ck.TT h) = true then (if rv.D.ag a (rv.D.asr 5 (Ck.TT h)) = true then .ok (Ck.mk2 5 (rv.D.asl 5 (Ck.TT h)) (rv.D.asr 5 (Ck.TT h))) else Ck.fault h 91) else Ck.fault h 90) := ⟨_, rfl⟩
  rw [← hR]
  have HR := k0_ hR
  clear hR
  go_enter Tryz.func104, Tryz.ntmps104
  go_upto_region 1 with fail
  rw [← HW1.out]
  obtain ⟨r0, r1, r2, r3, r4, q0, q1, q2, q3, q4, q5, q6, q7, q8, q9, q10, y0, y1⟩ := HK.out w1 (Below.refl _ _)
  rw [HKK.out] at q0
  clear hw1
  go_upto_region 22 with fail
  have CP := k0_ (qW rv (Ck.Cut Q w.heap.size (w.heap.size + 3)) h p 5 (Ck.TT h) p.TA p.tn p.tc w1 (by decide) HT.out hokT HS.out)
  try unfold tC_ at CP
  rw [HKK.out] at CP
  clear hokT
  go_wp2_with fail
  refine CP.out.mono ?_
  rintro e w2 hg
  rcases hg with ⟨hq, hg⟩ | ⟨hq, hg⟩
  · exact zGl
  · obtain ⟨G1, m1, c1, G2, m2, c2, rfl, hl1, hl2, hb⟩ := hg
    clear r0 r1 r2 r3 r4 q0 q1 q2 q3 q4 q5 q6 q7 q8 q9 q10 y0 y1
    have hl1 := Ck.Ly.weak (Q' := Ck.Cut Q w.heap.size (w.heap.size + 3)) (a := (rv.D.asl 5 (Ck.TT h))) hl1 (fun b _ hq => Ck.Cut.in (by have := HZ.out; omega) hq)
    have hl2 := Ck.Ly.weak (Q' := Ck.Cut Q w.heap.size (w.heap.size + 3)) (a := (rv.D.asr 5 (Ck.TT h))) hl2 (fun b _ hq => Ck.Cut.in (by have := HZ.out; omega) hq)
    have HQ1 := k0_ (show rv.D.asO 5 (Ck.TT h) = true from hq)
    have hz2 := hb.size
    obtain ⟨x1, x2⟩ := qz w2 (.cells #[.int .i8 (rv.D.asl 5 (Ck.TT h)).1, .slice G1 m1 c1] 25) (.cells #[.int .i8 (rv.D.asr 5 (Ck.TT h)).1, .slice G2 m2 c2] 25)
    have hb2 := qg w2 (.cells #[.int .i8 (rv.D.asl 5 (Ck.TT h)).1, .slice G1 m1 c1] 25) (.cells #[.int .i8 (rv.D.asr 5 (Ck.TT h)).1, .slice G2 m2 c2] 25)
    have HX1 := k0_ x1
    have HX2 := k0_ x2
    have HL1 := k0_ (Ck.Ly.later (a := (rv.D.asl 5 (Ck.TT h))) hl1 hb2)
    have HL2 := k0_ (Ck.Ly.later (a := (rv.D.asr 5 (Ck.TT h))) hl2 hb2)
    have HBW := k0_ (hb.trans (hb2.mono hb.size))
    have H1Z := k0_ (show w1.heap.size = w.heap.size + 3 from HZ.out)
    clear hl1 hl2 x1 x2 hb hb2 hq
    go_upto_region 23 with fail
    generalize hw4 : (w2.alloc (.cells #[.int .i8 (rv.D.asl 5 (Ck.TT h)).1, .slice G1 m1 c1] 25)).alloc (.cells #[.int .i8 (rv.D.asr 5 (Ck.TT h)).1, .slice G2 m2 c2] 25) = w4 at *
    clear hw4
    generalize w2.heap.size = S2 at *
    have HZ' := k0_ (show w.heap.size + 3 ≤ w4.heap.size from by have h1 := HZ.out; have h2 := HBW.out.size; omega)
    have hs2 : w.heap.size + 3 ≤ S2 := by have h1 := HZ.out; omega
    clear HZ
    have HZ := HZ'
    clear HZ'
    have HK := k0_ (fun (W : World) (hb : Below w4.heap.size w4 W) => HK.out W (HBW.out.trans (hb.mono HBW.out.size)))
    have hfrom := k0_ (fun (W : World) (hb : Below w4.heap.size w4 W) => hfrom.out W (HBW.out.trans (hb.mono HBW.out.size)))
    have HAL := k0_ (HAL.out.later HBW.out)
    have HS := k0_ (HS.out.below HBW.out)
    have H2 := k0_ (zC HBW.out (zD H2.out) H2.out)
    refine zO 170 rfl [115, 116, 117, 118, 119, 120, 121] (by kernel_rfl) (by kernel_rfl) (by kernel_rfl) (fun listed a' w' => a'.defers = [] ∧ a'.tmps.size = 170 ∧ (a'.eval (.tmp 2) = .slice (some ⟨Y, 0, none⟩) 1 cap ∧ a'.eval (.tmp 3) = .pointer (some ⟨w.heap.size, 0, none⟩) ∧ a'.eval (.tmp 4) = .pointer (some ⟨w.heap.size + 1, 0, none⟩) ∧ a'.eval (.tmp 6) = .pointer (some ⟨w.heap.size + 1 + 1, 0, none⟩) ∧ a'.eval (.tmp 15) = .pointer (some ⟨S2, 0, none⟩) ∧ a'.eval (.tmp 16) = .pointer (some ⟨S2 + 1, 0, none⟩)) ∧ (listed[0]? = some true → (a'.eval (.tmp 115) = .agg (rF_ rv))) ∧ (listed[1]? = some true → (a'.eval (.tmp 116) = .agg (tC_ h p))) ∧ (listed[2]? = some true → (a'.eval (.tmp 117) = .slice (some ⟨Y, 0, none⟩) 1 cap)) ∧ (listed[3]? = some true → (a'.eval (.tmp 118) = .pointer (some ⟨Y, 0, none⟩))) ∧ (listed[4]? = some true → (a'.eval (.tmp 119) = .agg #[.int .i8 a.1, .slice Ga ma ca])) ∧ (listed[5]? = some true → (a'.eval (.tmp 120) = .agg #[.int .i8 (rv.D.asr 5 (Ck.TT h)).1, .slice G2 m2 c2])) ∧ (listed[6]? = some true → (a'.eval (.tmp 121) = .tuple #[]) ∧ (rv.D.ag a (rv.D.asr 5 (Ck.TT h)) = true)) ∧ Below w4.heap.size w4 w') (fun _ _ _ h => h.1) ?_ ?_ ?_
    · exact zG8
    · rintro listed a' w' i o ⟨hdf, hsz, hx, y0, y1, y2, y3, y4, y5, y6, hbw⟩ hz hsz0 ho hi hp
      have hi13 : i < 7 := by
        exact zAR
      rcases (by omega : i = 0 ∨ i = 1 ∨ i = 2 ∨ i = 3 ∨ i = 4 ∨ i = 5 ∨ i = 6) with rfl | rfl | rfl | rfl | rfl | rfl | rfl
      · obtain rfl := SI ho
        obtain ⟨c0, c1, c2, c3, c4, c5, c6, c7, c8, c9, c10, c11, c12, c13, c14, c15, c16, c17⟩ := HK.out w' hbw
        exact V_ ho 115 ⟨pd hdf, ps hsz, KX hx, (fun _ => pS hsz), K1 y1, K1 y2, K1 y3, K1 y4, K1 y5, K1 y6, hbw⟩
      · obtain rfl := SI ho
        obtain ⟨c0, c1, c2, c3, c4, c5, c6, c7, c8, c9, c10, c11, c12, c13, c14, c15, c16, c17⟩ := HK.out w' hbw
        exact V_ ho 116 ⟨pd hdf, ps hsz, KX hx, K1 y0, (fun _ => pS hsz), K1 y2, K1 y3, K1 y4, K1 y5, K1 y6, hbw⟩
      · obtain rfl := SI ho
        exact V_ ho 117 ⟨pd hdf, ps hsz, KX hx, K1 y0, K1 y1, (fun _ => pS hsz), K1 y3, K1 y4, K1 y5, K1 y6, hbw⟩
      · obtain rfl := SI ho
        have v2 := hpv hp 2 (by simp)
        have ww2 := (y2 v2)
        exact V_ ho 118 ⟨pd hdf, ps hsz, KX hx, K1 y0, K1 y1, K1 y2, (fun _ => pS hsz), K1 y4, K1 y5, K1 y6, hbw⟩
      · obtain rfl := SI ho
        have v3 := hpv hp 3 (by simp)
        have ww3 := (y3 v3)
        obtain ⟨c0, c1, c2, c3, c4, c5, c6, c7, c8, c9, c10, c11, c12, c13, c14, c15, c16, c17⟩ := HK.out w' hbw
        exact V_ ho 119 ⟨pd hdf, ps hsz, KX hx, K1 y0, K1 y1, K1 y2, K1 y3, (fun _ => pS hsz), K1 y5, K1 y6, hbw⟩
      · obtain rfl := SI ho
        obtain ⟨e0, e1, -, -, -⟩ := zM (zC hbw (zD HX2.out) HX2.out)
        exact V_ ho 120 ⟨pd hdf, ps hsz, KX hx, K1 y0, K1 y1, K1 y2, K1 y3, K1 y4, (fun _ => pS hsz), K1 y6, hbw⟩
      · obtain rfl := SI ho
        have v0 := hpv hp 0 (by simp)
        have ww0 := (y0 v0)
        have v1 := hpv hp 1 (by simp)
        have ww1 := (y1 v1)
        have v4 := hpv hp 4 (by simp)
        have ww4 := (y4 v4)
        have v5 := hpv hp 5 (by simp)
        have ww5 := (y5 v5)
        refine M_ ho 121 (qA rv h p a.1 a.2 Ga ma ca (rv.D.asr 5 (Ck.TT h)).1 (rv.D.asr 5 (Ck.TT h)).2 G2 m2 c2 w' (HAL.out.later hbw).is (HL2.out.later hbw).is (HS.out.below hbw)) fun e u hg => ?_
        · rcases hg with ⟨hq, hg⟩ | ⟨hq, hg⟩
          · have HP : Ck.Post Q w R e u := by rw [HR.out, if_pos HQ1.out, if_neg (zY (show rv.D.ag a (rv.D.asr 5 (Ck.TT h)) = false from hq))]; exact Ck.Gave.from hg (hfrom.out w' hbw)
            exact vH
          · exact zD6
    · exact c7_
end Go.Proofs.YtgjemmmbnpkamaaGreatDoor
namespace Go.Proofs.YtgjemmmbnpkamaaGreatDoor
open Go.RowKit
set_option maxHeartbeats 8000000 in
set_option maxRecDepth 100000 in
theorem zBN (rv : Cg.Rv) (K : Nat) (Q : Nat → Prop) (h h1 h2 : Hd) (k1 k2 : Tm) (q1 q2 : Pl) (TA UA : Option Addr) (tn tc un uc kb ko kc : Nat) (l : Ck.Env) (A : Option Addr) (n c : Nat) (wb w : World)
    (hT : Ty.Is wb h.tk h.tkids TA tn tc) (hU : Ty.Is wb h.uk h.ukids UA un uc) (g1 : Ck.KidAt wb kb (ko) h1 q1) (g2 : Ck.KidAt wb kb (ko + 11) h2 q2) (hwb : Below wb.heap.size wb w) (hQ : ∀ b, b < wb.heap.size → Q b) (hS : Shapes w) (hE : Ck.EAt Q w l A n c)
    (hb1 : l.length + 2 * (Tm.nodes k1 + 1) ≤ 20000) (hb2 : l.length + 1 + 2 * (Tm.nodes k2 + 1) ≤ 20000) (T1 : Ck.TellsOf rv K wb h1 k1 q1) (T2 : Ck.TellsOf rv K wb h2 k2 q2) :
    Calls Tryz.prog 102 #[.agg (rF_ rv), .agg (tD_ h TA tn tc UA un uc (some ⟨kb, ko, none⟩) 2 kc), .slice A n c] w (Ck.Post Q w (Ck.bnd (Cg.ty rv.D K h1 k1 l) fun a => if rv.D.ag a (Ck.TT h) = true then Cg.ty rv.D K h2 k2 (l ++ [(h.name, Ck.TT h)]) else Ck.fault h 91)) := by
  try unfold tD_
  try unfold rF_
  obtain ⟨w1, hw1, hB3, H0', H1', H2', hz⟩ := qN w (.cells (rF_ rv) 56) (.cells (tD_ h TA tn tc UA un uc (some ⟨kb, ko, none⟩) 2 kc) 28) (.cells #[.int .i8 0, .slice none 0 0] 25)
  have HW1 := k0_ hw1
  have HB3 := k0_ hB3
  have H0 := k0_ H0'
  have H1 := k0_ H1'
  have H2 := k0_ H2'
  have HZ := k0_ hz
  have HWB := k0_ (hwb.trans (hB3.mono hwb.size))
  have HS := k0_ (hS.below hB3)
  have hfrom := k0_ (fun (W : World) (hb : Below w1.heap.size w1 W) => hB3.trans (hb.mono hB3.size))
  have HQM : Hid (∀ b, b < wb.heap.size → Ck.Cut Q w.heap.size (w.heap.size + 3) b) := k0_ (fun b hb => .inl ⟨hQ b hb, Nat.lt_of_lt_of_le hb hwb.size⟩)
  have HE : Hid (Ck.EAt (Ck.Cut Q w.heap.size (w.heap.size + 3)) w1 l A n c) := k0_ ((hE.weak (fun b hb hq => .inl ⟨hq, hb⟩)).below hB3)
  have HT : Hid (Ck.Ly (Ck.Cut Q w.heap.size (w.heap.size + 3)) w1 (Ck.TT h) TA tn tc) := k0_ (((Ck.Ly.of (a := Ck.TT h) hT).weak (fun b hb _ => HQM.out b hb)).later HWB.out)
  have HU : Hid (Ck.Ly (Ck.Cut Q w.heap.size (w.heap.size + 3)) w1 (Ck.UU h) UA un uc) := k0_ (((Ck.Ly.of (a := Ck.UU h) hU).weak (fun b hb _ => HQM.out b hb)).later HWB.out)
  have hnl := hE.n_eq
  have HN := k0_ hnl
  have HK := k0_ (fun (W : World) (hb : Below w1.heap.size w1 W) => (show W.cell? ⟨w.heap.size, 0, none⟩ = some (.func (Fn.func rv.fr) #[] rv.cpt) ∧ W.cell? ⟨w.heap.size, 1, none⟩ = some (.func (Fn.func rv.fa) #[] #[]) ∧ W.cell? ⟨w.heap.size, 2, none⟩ = some (.func (Fn.func rv.fm) #[] #[]) ∧ W.cell? ⟨w.heap.size, 3, none⟩ = some (.func (Fn.func rv.ft) #[] #[]) ∧ W.cell? ⟨w.heap.size, 4, none⟩ = some rv.vg ∧ W.cell? ⟨w.heap.size + 1, 0, none⟩ = some (.int .i8 h.kind) ∧ W.cell? ⟨w.heap.size + 1, 1, none⟩ = some (.string h.name) ∧ W.cell? ⟨w.heap.size + 1, 2, none⟩ = some (.string h.arg) ∧ W.cell? ⟨w.heap.size + 1, 3, none⟩ = some (.int .i64 h.num) ∧ W.cell? ⟨w.heap.size + 1, 4, none⟩ = some (.int .i8 h.tk) ∧ W.cell? ⟨w.heap.size + 1, 5, none⟩ = some (.slice TA tn tc) ∧ W.cell? ⟨w.heap.size + 1, 6, none⟩ = some (.int .i8 h.uk) ∧ W.cell? ⟨w.heap.size + 1, 7, none⟩ = some (.slice UA un uc) ∧ W.cell? ⟨w.heap.size + 1, 8, none⟩ = some (.int .i64 h.label) ∧ W.cell? ⟨w.heap.size + 1, 9, none⟩ = some (.int .i64 h.pos) ∧ W.cell? ⟨w.heap.size + 1, 10, none⟩ = some (.slice (some ⟨kb, ko, none⟩) 2 kc) from by
    obtain ⟨r0, r1, r2, r3, r4, -⟩ := jI (zC hb (zD H0.out) H0.out)
    obtain ⟨q0, q1, q2, q3, q4, q5, q6, q7, q8, q9, q10, ql⟩ := zN (zC hb (zD H1.out) H1.out)
    exact ⟨r0, r1, r2, r3, r4, q0, q1, q2, q3, q4, q5, q6, q7, q8, q9, q10⟩))
  have HK1 := k0_ (fun (W : World) (hb : Below w1.heap.size w1 W) => (show W.cell? ⟨kb, ko, none⟩ = some (.int .i8 h1.kind) ∧ W.cell? ⟨kb, ko + 1, none⟩ = some (.string h1.name) ∧ W.cell? ⟨kb, ko + 2, none⟩ = some (.string h1.arg) ∧ W.cell? ⟨kb, ko + 3, none⟩ = some (.int .i64 h1.num) ∧ W.cell? ⟨kb, ko + 4, none⟩ = some (.int .i8 h1.tk) ∧ W.cell? ⟨kb, ko + 5, none⟩ = some (.slice q1.TA q1.tn q1.tc) ∧ W.cell? ⟨kb, ko + 6, none⟩ = some (.int .i8 h1.uk) ∧ W.cell? ⟨kb, ko + 7, none⟩ = some (.slice q1.UA q1.un q1.uc) ∧ W.cell? ⟨kb, ko + 8, none⟩ = some (.int .i64 h1.label) ∧ W.cell? ⟨kb, ko + 9, none⟩ = some (.int .i64 h1.pos) ∧ W.cell? ⟨kb, ko + 10, none⟩ = some (.slice q1.A q1.n q1.c) from
    ⟨zB (zB (g1 0 _ rfl) HWB.out) hb, zB (zB (g1 1 _ rfl) HWB.out) hb, zB (zB (g1 2 _ rfl) HWB.out) hb, zB (zB (g1 3 _ rfl) HWB.out) hb, zB (zB (g1 4 _ rfl) HWB.out) hb, zB (zB (g1 5 _ rfl) HWB.out) hb, zB (zB (g1 6 _ rfl) HWB.out) hb, zB (zB (g1 7 _ rfl) HWB.out) hb, zB (zB (g1 8 _ rfl) HWB.out) hb, zB (zB (g1 9 _ rfl) HWB.out) hb, zB (zB (g1 10 _ rfl) HWB.out) hb⟩))
  have HK2 := k0_ (fun (W : World) (hb : Below w1.heap.size w1 W) => (show W.cell? ⟨kb, ko + 11, none⟩ = some (.int .i8 h2.kind) ∧ W.cell? ⟨kb, ko + 12, none⟩ = some (.string h2.name) ∧ W.cell? ⟨kb, ko + 13, none⟩ = some (.string h2.arg) ∧ W.cell? ⟨kb, ko + 14, none⟩ = some (.int .i64 h2.num) ∧ W.cell? ⟨kb, ko + 15, none⟩ = some (.int .i8 h2.tk) ∧ W.cell? ⟨kb, ko + 16, none⟩ = some (.slice q2.TA q2.tn q2.tc) ∧ W.cell? ⟨kb, ko + 17, none⟩ = some (.int .i8 h2.uk) ∧ W.cell? ⟨kb, ko + 18, none⟩ = some (.slice q2.UA q2.un q2.uc) ∧ W.cell? ⟨kb, ko + 19, none⟩ = some (.int .i64 h2.label) ∧ W.cell? ⟨kb, ko + 20, none⟩ = some (.int .i64 h2.pos) ∧ W.cell? ⟨kb, ko + 21, none⟩ = some (.slice q2.A q2.n q2.c) from
    ⟨zB (zB (g2 0 _ rfl) HWB.out) hb, zB (zB (g2 1 _ rfl) HWB.out) hb, zB (zB (g2 2 _ rfl) HWB.out) hb, zB (zB (g2 3 _ rfl) HWB.out) hb, zB (zB (g2 4 _ rfl) HWB.out) hb, zB (zB (g2 5 _ rfl) HWB.out) hb, zB (zB (g2 6 _ rfl) HWB.out) hb, zB (zB (g2 7 _ rfl) HWB.out) hb, zB (zB (g2 8 _ rfl) HWB.out) hb, zB (zB (g2 9 _ rfl) HWB.out) hb, zB (zB (g2 10 _ rfl) HWB.out) hb⟩))
  clear hB3 H0' H1' H2' hz hwb hS hE hT hU hnl g1 g2
  obtain ⟨R, hR⟩ : ∃ R, R = (Ck.bnd (Cg.ty rv.D K h1 k1 l) fun a => if rv.D.ag a (Ck.TT h) = true then Cg.ty rv.D K h2 k2 (l ++ [(h.name, Ck.TT h)]) else Ck.fault h 91) := ⟨_, rfl⟩
  rw [← hR]
  have HR := k0_ hR
  clear hR
  have CT1 := k0_ (fun (W : World) (hb : Below w1.heap.size w1 W) => T1 (Ck.Cut Q w.heap.size (w.heap.size + 3)) l A n c W (HWB.out.trans (hb.mono HWB.out.size)) HQM.out (HS.out.below hb) (HE.out.below hb) hb1)
  have CT2 := k0_ (fun (G : Option Addr) (k : Nat) (W : World) (hb : Below w1.heap.size w1 W) (he : Ck.EAt (Ck.Cut Q w.heap.size (w.heap.size + 3)) W (l ++ [(h.name, Ck.TT h)]) G (n + 1) k) => T2 (Ck.Cut Q w.heap.size (w.heap.size + 3)) (l ++ [(h.name, Ck.TT h)]) G (n + 1) k W (HWB.out.trans (hb.mono HWB.out.size)) HQM.out (HS.out.below hb) he (by rw [List.length_append]; exact hb2))
  have hn20 : n + 1 ≤ 20000 := by have := HN.out; omega
  go_enter Tryz.func102, Tryz.ntmps102
  go_upto_region 1 with fail
  rw [← HW1.out]
  clear hw1
  refine zO 33 rfl [7, 8, 9, 10, 11, 12, 13, 14, 15, 16, 17, 18] (by kernel_rfl) (by kernel_rfl) (by kernel_rfl) (fun listed a' w' => a'.defers = [] ∧ a'.tmps.size = 33 ∧ (a'.eval (.tmp 2) = .slice A n c ∧ a'.eval (.tmp 3) = .pointer (some ⟨w.heap.size, 0, none⟩) ∧ a'.eval (.tmp 4) = .pointer (some ⟨w.heap.size + 1, 0, none⟩) ∧ a'.eval (.tmp 6) = .pointer (some ⟨w.heap.size + 1 + 1, 0, none⟩)) ∧ ∃ Ga ma ca t1, (listed[0]? = some true → (a'.eval (.tmp 7) = .agg (rF_ rv))) ∧ (listed[1]? = some true → (a'.eval (.tmp 8) = .agg (tD_ h TA tn tc UA un uc (some ⟨kb, ko, none⟩) 2 kc))) ∧ (listed[2]? = some true → (a'.eval (.tmp 9) = .agg (rF_ rv))) ∧ (listed[3]? = some true → (a'.eval (.tmp 10) = .pointer (some ⟨w.heap.size + 1, 10, none⟩))) ∧ (listed[4]? = some true → (a'.eval (.tmp 11) = .slice (some ⟨kb, ko, none⟩) 2 kc)) ∧ (listed[5]? = some true → (a'.eval (.tmp 12) = .pointer (some ⟨kb, ko, none⟩))) ∧ (listed[6]? = some true → (a'.eval (.tmp 13) = .agg (tC_ h1 q1))) ∧ (listed[7]? = some true → (a'.eval (.tmp 14) = .slice A n c)) ∧ (listed[8]? = some true → (a'.eval (.tmp 15) = .agg #[.int .i8 t1.1, .slice Ga ma ca]) ∧ (Cg.ty rv.D K h1 k1 (l) = .ok t1) ∧ (Ck.Ly (Ck.Cut Q w.heap.size (w.heap.size + 3)) w' t1 Ga ma ca)) ∧ (listed[9]? = some true → (a'.eval (.tmp 16) = .pointer (some ⟨w.heap.size + 1, 4, none⟩))) ∧ (listed[10]? = some true → (a'.eval (.tmp 17) = .agg #[.int .i8 h.tk, .slice TA tn tc])) ∧ (listed[11]? = some true → (a'.eval (.tmp 18) = .tuple #[]) ∧ (listed[8]? = some true) ∧ (rv.D.ag t1 (Ck.TT h) = true)) ∧ Below w1.heap.size w1 w') (fun _ _ _ h => h.1) ?_ ?_ ?_
  · have hz := HZ.out
    refine ⟨rfl, rfl, ⟨rfl, rfl, rfl, rfl⟩, none, 0, 0, (0, .nil), FH, FH, FH, FH, FH, FH, FH, FH, FH, FH, FH, FH, (Below.refl _ _).drew⟩
  · rintro listed a' w' i o ⟨hdf, hsz, hx, Ga, ma, ca, t1, y0, y1, y2, y3, y4, y5, y6, y7, y8, y9, y10, y11, hbw⟩ hz hsz0 ho hi hp
    have hi13 : i < 12 := by
      rcases Nat.lt_or_ge i 12 with q | q
      · exact q
      · exact ve
    rcases (by omega : i = 0 ∨ i = 1 ∨ i = 2 ∨ i = 3 ∨ i = 4 ∨ i = 5 ∨ i = 6 ∨ i = 7 ∨ i = 8 ∨ i = 9 ∨ i = 10 ∨ i = 11) with rfl | rfl | rfl | rfl | rfl | rfl | rfl | rfl | rfl | rfl | rfl | rfl
    · obtain rfl := SI ho
      obtain ⟨c0, c1, c2, c3, c4, c5, c6, c7, c8, c9, c10, c11, c12, c13, c14, c15⟩ := HK.out w' hbw
      exact V_ ho 7 ⟨pd hdf, ps hsz, KX hx, Ga, ma, ca, t1, (fun _ => pS hsz), K1 y1, K1 y2, K1 y3, K1 y4, K1 y5, K1 y6, K1 y7, K1 y8, K1 y9, K1 y10, K1 y11, hbw⟩
    · obtain rfl := SI ho
      obtain ⟨c0, c1, c2, c3, c4, c5, c6, c7, c8, c9, c10, c11, c12, c13, c14, c15⟩ := HK.out w' hbw
      exact V_ ho 8 ⟨pd hdf, ps hsz, KX hx, Ga, ma, ca, t1, K1 y0, (fun _ => pS hsz), K1 y2, K1 y3, K1 y4, K1 y5, K1 y6, K1 y7, K1 y8, K1 y9, K1 y10, K1 y11, hbw⟩
    · obtain rfl := SI ho
      obtain ⟨c0, c1, c2, c3, c4, c5, c6, c7, c8, c9, c10, c11, c12, c13, c14, c15⟩ := HK.out w' hbw
      exact V_ ho 9 ⟨pd hdf, ps hsz, KX hx, Ga, ma, ca, t1, K1 y0, K1 y1, (fun _ => pS hsz), K1 y3, K1 y4, K1 y5, K1 y6, K1 y7, K1 y8, K1 y9, K1 y10, K1 y11, hbw⟩
    · obtain rfl := SI ho
      exact V_ ho 10 ⟨pd hdf, ps hsz, KX hx, Ga, ma, ca, t1, K1 y0, K1 y1, K1 y2, (fun _ => pS hsz), K1 y4, K1 y5, K1 y6, K1 y7, K1 y8, K1 y9, K1 y10, K1 y11, hbw⟩
    · obtain rfl := SI ho
      have v3 := hpv hp 3 (by simp)
      have ww3 := (y3 v3)
      obtain ⟨c0, c1, c2, c3, c4, c5, c6, c7, c8, c9, c10, c11, c12, c13, c14, c15⟩ := HK.out w' hbw
      exact V_ ho 11 ⟨pd hdf, ps hsz, KX hx, Ga, ma, ca, t1, K1 y0, K1 y1, K1 y2, K1 y3, (fun _ => pS hsz), K1 y5, K1 y6, K1 y7, K1 y8, K1 y9, K1 y10, K1 y11, hbw⟩
    · obtain rfl := SI ho
      have v4 := hpv hp 4 (by simp)
      have ww4 := (y4 v4)
      exact V_ ho 12 ⟨pd hdf, ps hsz, KX hx, Ga, ma, ca, t1, K1 y0, K1 y1, K1 y2, K1 y3, K1 y4, (fun _ => pS hsz), K1 y6, K1 y7, K1 y8, K1 y9, K1 y10, K1 y11, hbw⟩
    · obtain rfl := SI ho
      have v5 := hpv hp 5 (by simp)
      have ww5 := (y5 v5)
      obtain ⟨d1_0, d1_1, d1_2, d1_3, d1_4, d1_5, d1_6, d1_7, d1_8, d1_9, d1_10⟩ := HK1.out w' hbw
      exact V_ ho 13 ⟨pd hdf, ps hsz, KX hx, Ga, ma, ca, t1, K1 y0, K1 y1, K1 y2, K1 y3, K1 y4, K1 y5, (fun _ => pS hsz), K1 y7, K1 y8, K1 y9, K1 y10, K1 y11, hbw⟩
    · obtain rfl := SI ho
      exact V_ ho 14 ⟨pd hdf, ps hsz, KX hx, Ga, ma, ca, t1, K1 y0, K1 y1, K1 y2, K1 y3, K1 y4, K1 y5, K1 y6, (fun _ => pS hsz), K1 y8, K1 y9, K1 y10, K1 y11, hbw⟩
    · obtain rfl := SI ho
      have v2 := hpv hp 2 (by simp)
      have ww2 := (y2 v2)
      have v6 := hpv hp 6 (by simp)
      have ww6 := (y6 v6)
      have v7 := hpv hp 7 (by simp)
      have ww7 := (y7 v7)
      refine M_ ho 15 (CT1.out w' hbw) fun e u hg => ?_
      · rcases Ck.Post.split hg with ⟨E, pp, x, hr1, hg⟩ | ⟨t1', hr1, hg⟩
        · exact zFE
        · obtain ⟨Ga', ma', ca', rfl, hl, hb⟩ := hg
          refine .inl ?_
          refine ⟨.agg #[.int .i8 t1'.1, .slice Ga' ma' ca'], rfl, ?_⟩
          have hbs := hbw.size
          have hzz := HZ.out
          have hbs2 := hb.size
          exact ⟨pd hdf, ps hsz, KX hx, Ga', ma', ca', t1', K1 y0, K1 y1, K1 y2, K1 y3, K1 y4, K1 y5, K1 y6, K1 y7, (fun _ => ⟨pS hsz, hr1, Ck.Ly.weak hl (fun b _ hq => Ck.Cut.in (by omega) hq)⟩), K1 y9, K1 y10, KN y11, hbw.trans (hb.mono hbw.size)⟩
    · obtain rfl := SI ho
      exact V_ ho 16 ⟨pd hdf, ps hsz, KX hx, Ga, ma, ca, t1, K1 y0, K1 y1, K1 y2, K1 y3, K1 y4, K1 y5, K1 y6, K1 y7, K1 y8, (fun _ => pS hsz), K1 y10, K1 y11, hbw⟩
    · obtain rfl := SI ho
      have v9 := hpv hp 9 (by simp)
      have ww9 := (y9 v9)
      obtain ⟨c0, c1, c2, c3, c4, c5, c6, c7, c8, c9, c10, c11, c12, c13, c14, c15⟩ := HK.out w' hbw
      exact V_ ho 17 ⟨pd hdf, ps hsz, KX hx, Ga, ma, ca, t1, K1 y0, K1 y1, K1 y2, K1 y3, K1 y4, K1 y5, K1 y6, K1 y7, K1 y8, K1 y9, (fun _ => pS hsz), K1 y11, hbw⟩
    · obtain rfl := SI ho
      have v0 := hpv hp 0 (by simp)
      have ww0 := (y0 v0)
      have v1 := hpv hp 1 (by simp)
      have ww1 := (y1 v1)
      have v8 := hpv hp 8 (by simp)
      have ww8 := (y8 v8).1
      have v10 := hpv hp 10 (by simp)
      have ww10 := (y10 v10)
      refine M_ ho 18 (qA rv h (⟨TA, tn, tc, UA, un, uc, some ⟨kb, ko, none⟩, 2, kc⟩ : Pl) t1.1 t1.2 Ga ma ca h.tk h.tkids TA tn tc w' ((y8 v8).2.2).is (HT.out.later hbw).is (HS.out.below hbw)) fun e u hg => ?_
      · rcases hg with ⟨hq, hg⟩ | ⟨hq, hg⟩
        · have HP : Ck.Post Q w R e u := by rw [HR.out, ((y8 v8).2.1)]; show Ck.Post Q w (if rv.D.ag t1 (Ck.TT h) = true then _ else _) e u; rw [if_neg (zY (show rv.D.ag t1 (Ck.TT h) = false from hq))]; exact Ck.Gave.from hg (hfrom.out w' hbw)
          exact vH
        · obtain ⟨he, hb⟩ := hg
          refine .inl ?_
          refine ⟨.tuple #[], he, ?_⟩
          have hbs := hbw.size
          have hzz := HZ.out
          have hbs2 := hb.size
          exact ⟨pd hdf, ps hsz, KX hx, Ga, ma, ca, t1, K1 y0, K1 y1, K1 y2, K1 y3, K1 y4, K1 y5, K1 y6, K1 y7, K1 y8, K1 y9, K1 y10, (fun _ => ⟨pS hsz, (zA v8), hq⟩), hbw.trans (hb.mono hbw.size)⟩
  · rintro listed u w' t ht hu ⟨-, -, -, Ga, ma, ca, t1, y0, y1, y2, y3, y4, y5, y6, y7, y8, y9, y10, y11, hbw⟩ hall
    have v8 := hall 8 (by decide)
    have v11 := hall 11 (by decide)
    have HBW := k0_ hbw
    have P1 := k0_ ((y8 v8).2.1)
    have P2 := k0_ ((y11 v11).2.2)
    clear y0 y1 y2 y3 y4 y5 y6 y7 y8 y9 y10 y11 v8 v11 hall hu
    clear hbw
    simp only [over, List.setIfInBounds_toArray, List.set_cons_succ, List.set_cons_zero] at ht
    subst ht
    obtain ⟨r0, r1, r2, r3, r4, q0', q1', q2', q3', q4', q5', q6', q7', q8', q9', q10'⟩ := HK.out w' HBW.out
    go_upto_region 2 with fail
    clear r0 r1 r2 r3 r4 q0' q1' q2' q3' q4' q5' q6' q7' q8' q9' q10'
    refine zO 33 rfl [19, 20, 21, 22, 23, 24, 25, 26, 27, 28, 29, 30, 31, 32] (by kernel_rfl) (by kernel_rfl) (by kernel_rfl) (fun listed a' w' => a'.defers = [] ∧ a'.tmps.size = 33 ∧ (a'.eval (.tmp 2) = .slice A n c ∧ a'.eval (.tmp 3) = .pointer (some ⟨w.heap.size, 0, none⟩) ∧ a'.eval (.tmp 4) = .pointer (some ⟨w.heap.size + 1, 0, none⟩) ∧ a'.eval (.tmp 6) = .pointer (some ⟨w.heap.size + 1 + 1, 0, none⟩)) ∧ ∃ X Gw kw Gb mb cb t2, (listed[0]? = some true → (a'.eval (.tmp 19) = .agg (rF_ rv))) ∧ (listed[1]? = some true → (a'.eval (.tmp 20) = .pointer (some ⟨w.heap.size + 1, 10, none⟩))) ∧ (listed[2]? = some true → (a'.eval (.tmp 21) = .slice (some ⟨kb, ko, none⟩) 2 kc) ∧ (listed[1]? = some true)) ∧ (listed[3]? = some true → (a'.eval (.tmp 22) = .pointer (some ⟨kb, ko + 11, none⟩)) ∧ (listed[1]? = some true) ∧ (listed[2]? = some true)) ∧ (listed[4]? = some true → (a'.eval (.tmp 23) = .agg (tC_ h2 q2)) ∧ (listed[1]? = some true) ∧ (listed[2]? = some true) ∧ (listed[3]? = some true)) ∧ (listed[5]? = some true → (a'.eval (.tmp 24) = .slice A n c)) ∧ (listed[6]? = some true → (a'.eval (.tmp 25) = .pointer (some ⟨w.heap.size + 1, 1, none⟩))) ∧ (listed[7]? = some true → (a'.eval (.tmp 26) = .string h.name) ∧ (listed[6]? = some true)) ∧ (listed[8]? = some true → (a'.eval (.tmp 27) = .pointer (some ⟨w.heap.size + 1, 4, none⟩))) ∧ (listed[9]? = some true → (a'.eval (.tmp 28) = .agg #[.int .i8 h.tk, .slice TA tn tc]) ∧ (listed[8]? = some true)) ∧ (listed[10]? = some true → (a'.eval (.tmp 29) = .agg #[.string h.name, .int .i8 h.tk, .slice TA tn tc]) ∧ (listed[6]? = some true) ∧ (listed[7]? = some true) ∧ (listed[8]? = some true) ∧ (listed[9]? = some true)) ∧ (listed[11]? = some true → (a'.eval (.tmp 30) = .slice (some ⟨X, 0, none⟩) 1 1) ∧ (listed[6]? = some true) ∧ (listed[7]? = some true) ∧ (listed[8]? = some true) ∧ (listed[9]? = some true) ∧ (listed[10]? = some true) ∧ ((listed[12]? = some false → Ck.EAt (Ck.Cut Q w.heap.size (w.heap.size + 3)) w' [(h.name, (Ck.TT h))] (some ⟨X, 0, none⟩) 1 1))) ∧ (listed[12]? = some true → (a'.eval (.tmp 31) = .slice Gw (n + 1) kw) ∧ (listed[5]? = some true) ∧ (listed[6]? = some true) ∧ (listed[7]? = some true) ∧ (listed[8]? = some true) ∧ (listed[9]? = some true) ∧ (listed[10]? = some true) ∧ (listed[11]? = some true) ∧ ((listed[13]? = some false → Ck.EAt (Ck.Cut Q w.heap.size (w.heap.size + 3)) w' (l ++ [(h.name, (Ck.TT h))]) Gw (n + 1) kw))) ∧ (listed[13]? = some true → (a'.eval (.tmp 32) = .agg #[.int .i8 t2.1, .slice Gb mb cb]) ∧ (listed[0]? = some true) ∧ (listed[1]? = some true) ∧ (listed[2]? = some true) ∧ (listed[3]? = some true) ∧ (listed[4]? = some true) ∧ (listed[5]? = some true) ∧ (listed[6]? = some true) ∧ (listed[7]? = some true) ∧ (listed[8]? = some true) ∧ (listed[9]? = some true) ∧ (listed[10]? = some true) ∧ (listed[11]? = some true) ∧ (listed[12]? = some true) ∧ (Cg.ty rv.D K h2 k2 (l ++ [(h.name, Ck.TT h)]) = .ok t2) ∧ (Ck.Ly (Ck.Cut Q w.heap.size (w.heap.size + 3)) w' t2 Gb mb cb)) ∧ (listed[14]? = some true → (listed[0]? = some true) ∧ (listed[1]? = some true) ∧ (listed[2]? = some true) ∧ (listed[3]? = some true) ∧ (listed[4]? = some true) ∧ (listed[5]? = some true) ∧ (listed[6]? = some true) ∧ (listed[7]? = some true) ∧ (listed[8]? = some true) ∧ (listed[9]? = some true) ∧ (listed[10]? = some true) ∧ (listed[11]? = some true) ∧ (listed[12]? = some true) ∧ (listed[13]? = some true) ∧ (w'.heap[w.heap.size + 1 + 1]? = some (.cells #[.int .i8 t2.1, .slice Gb mb cb] 25 (0, 0))) ∧ (Below w.heap.size w w')) ∧ (listed[14]? = some false → Below w1.heap.size w1 w')) (fun _ _ _ h => h.1) ?_ ?_ ?_
    · have hz := HZ.out
      refine ⟨rfl, rfl, ⟨rfl, rfl, rfl, rfl⟩, 0, none, 0, none, 0, 0, (0, .nil), FH, FH, FH, FH, FH, FH, FH, FH, FH, FH, FH, FH, FH, FH, FH, (fun _ => HBW.out.drew)⟩
    · rintro listed a' w' i o ⟨hdf, hsz, hx, X, Gw, kw, Gb, mb, cb, t2, y0, y1, y2, y3, y4, y5, y6, y7, y8, y9, y10, y11, y12, y13, y14, hbw⟩ hz hsz0 ho hi hp
      have hi13 : i < 15 := by
        exact zEL
      rcases (by omega : i = 0 ∨ i = 1 ∨ i = 2 ∨ i = 3 ∨ i = 4 ∨ i = 5 ∨ i = 6 ∨ i = 7 ∨ i = 8 ∨ i = 9 ∨ i = 10 ∨ i = 11 ∨ i = 12 ∨ i = 13 ∨ i = 14) with rfl | rfl | rfl | rfl | rfl | rfl | rfl | rfl | rfl | rfl | rfl | rfl | rfl | rfl | rfl
      · obtain rfl := SI ho
        have hbu := hbw
        have hbw := hbw (nf (by rw [hz]; decide) (fun q => (y14 q).1) hi)
        obtain ⟨c0, c1, c2, c3, c4, c5, c6, c7, c8, c9, c10, c11, c12, c13, c14, c15⟩ := HK.out w' hbw
        exact V_ ho 19 ⟨pd hdf, ps hsz, KX hx, X, Gw, kw, Gb, mb, cb, t2, (fun _ => pS hsz), K1 y1, K1 y2, K1 y3, K1 y4, K1 y5, K1 y6, K1 y7, K1 y8, K1 y9, K1 y10, (kF y11 (fun q => ⟨pn q.1, zA q.2.1, zA q.2.2.1, zA q.2.2.2.1, zA q.2.2.2.2.1, zA q.2.2.2.2.2.1, (kU q.2.2.2.2.2.2 (fun q => q))⟩)), (kF y12 (fun q => ⟨pn q.1, zA q.2.1, zA q.2.2.1, zA q.2.2.2.1, zA q.2.2.2.2.1, zA q.2.2.2.2.2.1, zA q.2.2.2.2.2.2.1, zA q.2.2.2.2.2.2.2.1, (kU q.2.2.2.2.2.2.2.2 (fun q => q))⟩)), KN y13, KN y14, (kU hbu id)⟩
      · obtain rfl := SI ho
        exact V_ ho 20 ⟨pd hdf, ps hsz, KX hx, X, Gw, kw, Gb, mb, cb, t2, K1 y0, (fun _ => pS hsz), KN y2, KN y3, KN y4, K1 y5, K1 y6, K1 y7, K1 y8, K1 y9, K1 y10, (kF y11 (fun q => ⟨pn q.1, zA q.2.1, zA q.2.2.1, zA q.2.2.2.1, zA q.2.2.2.2.1, zA q.2.2.2.2.2.1, (kU q.2.2.2.2.2.2 (fun q => q))⟩)), (kF y12 (fun q => ⟨pn q.1, zA q.2.1, zA q.2.2.1, zA q.2.2.2.1, zA q.2.2.2.2.1, zA q.2.2.2.2.2.1, zA q.2.2.2.2.2.2.1, zA q.2.2.2.2.2.2.2.1, (kU q.2.2.2.2.2.2.2.2 (fun q => q))⟩)), KN y13, KN y14, (kU hbw id)⟩
      · obtain rfl := SI ho
        have v1 := hpv hp 1 (by simp)
        have ww1 := (y1 v1)
        have hbu := hbw
        have hbw := hbw (nf (by rw [hz]; decide) (fun q => (y14 q).2.2.1) hi)
        obtain ⟨c0, c1, c2, c3, c4, c5, c6, c7, c8, c9, c10, c11, c12, c13, c14, c15⟩ := HK.out w' hbw
        exact V_ ho 21 ⟨pd hdf, ps hsz, KX hx, X, Gw, kw, Gb, mb, cb, t2, K1 y0, K1 y1, (fun _ => ⟨pS hsz, (zA v1)⟩), KN y3, KN y4, K1 y5, K1 y6, K1 y7, K1 y8, K1 y9, K1 y10, (kF y11 (fun q => ⟨pn q.1, zA q.2.1, zA q.2.2.1, zA q.2.2.2.1, zA q.2.2.2.2.1, zA q.2.2.2.2.2.1, (kU q.2.2.2.2.2.2 (fun q => q))⟩)), (kF y12 (fun q => ⟨pn q.1, zA q.2.1, zA q.2.2.1, zA q.2.2.2.1, zA q.2.2.2.2.1, zA q.2.2.2.2.2.1, zA q.2.2.2.2.2.2.1, zA q.2.2.2.2.2.2.2.1, (kU q.2.2.2.2.2.2.2.2 (fun q => q))⟩)), KN y13, KN y14, (kU hbu id)⟩
      · obtain rfl := SI ho
        have v2 := hpv hp 2 (by simp)
        have ww2 := (y2 v2).1
        exact V_ ho 22 ⟨pd hdf, ps hsz, KX hx, X, Gw, kw, Gb, mb, cb, t2, K1 y0, K1 y1, K1 y2, (fun _ => ⟨pS hsz, (zA ((y2 v2).2)), (zA v2)⟩), KN y4, K1 y5, K1 y6, K1 y7, K1 y8, K1 y9, K1 y10, (kF y11 (fun q => ⟨pn q.1, zA q.2.1, zA q.2.2.1, zA q.2.2.2.1, zA q.2.2.2.2.1, zA q.2.2.2.2.2.1, (kU q.2.2.2.2.2.2 (fun q => q))⟩)), (kF y12 (fun q => ⟨pn q.1, zA q.2.1, zA q.2.2.1, zA q.2.2.2.1, zA q.2.2.2.2.1, zA q.2.2.2.2.2.1, zA q.2.2.2.2.2.2.1, zA q.2.2.2.2.2.2.2.1, (kU q.2.2.2.2.2.2.2.2 (fun q => q))⟩)), KN y13, KN y14, (kU hbw id)⟩
      · obtain rfl := SI ho
        have v3 := hpv hp 3 (by simp)
        have ww3 := (y3 v3).1
        have hbu := hbw
        have hbw := hbw (nf (by rw [hz]; decide) (fun q => (y14 q).2.2.2.2.1) hi)
        obtain ⟨d2_0, d2_1, d2_2, d2_3, d2_4, d2_5, d2_6, d2_7, d2_8, d2_9, d2_10⟩ := HK2.out w' hbw
        exact V_ ho 23 ⟨pd hdf, ps hsz, KX hx, X, Gw, kw, Gb, mb, cb, t2, K1 y0, K1 y1, K1 y2, K1 y3, (fun _ => ⟨pS hsz, (zA ((y3 v3).2.1)), (zA ((y3 v3).2.2)), (zA v3)⟩), K1 y5, K1 y6, K1 y7, K1 y8, K1 y9, K1 y10, (kF y11 (fun q => ⟨pn q.1, zA q.2.1, zA q.2.2.1, zA q.2.2.2.1, zA q.2.2.2.2.1, zA q.2.2.2.2.2.1, (kU q.2.2.2.2.2.2 (fun q => q))⟩)), (kF y12 (fun q => ⟨pn q.1, zA q.2.1, zA q.2.2.1, zA q.2.2.2.1, zA q.2.2.2.2.1, zA q.2.2.2.2.2.1, zA q.2.2.2.2.2.2.1, zA q.2.2.2.2.2.2.2.1, (kU q.2.2.2.2.2.2.2.2 (fun q => q))⟩)), KN y13, KN y14, (kU hbu id)⟩
      · obtain rfl := SI ho
        exact V_ ho 24 ⟨pd hdf, ps hsz, KX hx, X, Gw, kw, Gb, mb, cb, t2, K1 y0, K1 y1, K1 y2, K1 y3, K1 y4, (fun _ => pS hsz), K1 y6, K1 y7, K1 y8, K1 y9, K1 y10, (kF y11 (fun q => ⟨pn q.1, zA q.2.1, zA q.2.2.1, zA q.2.2.2.1, zA q.2.2.2.2.1, zA q.2.2.2.2.2.1, (kU q.2.2.2.2.2.2 (fun q => q))⟩)), KN y12, KN y13, KN y14, (kU hbw id)⟩
      · obtain rfl := SI ho
        exact V_ ho 25 ⟨pd hdf, ps hsz, KX hx, X, Gw, kw, Gb, mb, cb, t2, K1 y0, K1 y1, K1 y2, K1 y3, K1 y4, K1 y5, (fun _ => pS hsz), KN y7, K1 y8, K1 y9, KN y10, KN y11, KN y12, KN y13, KN y14, (kU hbw id)⟩
      · obtain rfl := SI ho
        have v6 := hpv hp 6 (by simp)
        have ww6 := (y6 v6)
        have hbu := hbw
        have hbw := hbw (nf (by rw [hz]; decide) (fun q => (y14 q).2.2.2.2.2.2.2.1) hi)
        obtain ⟨c0, c1, c2, c3, c4, c5, c6, c7, c8, c9, c10, c11, c12, c13, c14, c15⟩ := HK.out w' hbw
        exact V_ ho 26 ⟨pd hdf, ps hsz, KX hx, X, Gw, kw, Gb, mb, cb, t2, K1 y0, K1 y1, K1 y2, K1 y3, K1 y4, K1 y5, K1 y6, (fun _ => ⟨pS hsz, (zA v6)⟩), K1 y8, K1 y9, KN y10, KN y11, KN y12, KN y13, KN y14, (kU hbu id)⟩
      · obtain rfl := SI ho
        exact V_ ho 27 ⟨pd hdf, ps hsz, KX hx, X, Gw, kw, Gb, mb, cb, t2, K1 y0, K1 y1, K1 y2, K1 y3, K1 y4, K1 y5, K1 y6, K1 y7, (fun _ => pS hsz), KN y9, KN y10, KN y11, KN y12, KN y13, KN y14, (kU hbw id)⟩
      · obtain rfl := SI ho
        have v8 := hpv hp 8 (by simp)
        have ww8 := (y8 v8)
        have hbu := hbw
        have hbw := hbw (nf (by rw [hz]; decide) (fun q => (y14 q).2.2.2.2.2.2.2.2.2.1) hi)
        obtain ⟨c0, c1, c2, c3, c4, c5, c6, c7, c8, c9, c10, c11, c12, c13, c14, c15⟩ := HK.out w' hbw
        exact V_ ho 28 ⟨pd hdf, ps hsz, KX hx, X, Gw, kw, Gb, mb, cb, t2, K1 y0, K1 y1, K1 y2, K1 y3, K1 y4, K1 y5, K1 y6, K1 y7, K1 y8, (fun _ => ⟨pS hsz, (zA v8)⟩), KN y10, KN y11, KN y12, KN y13, KN y14, (kU hbu id)⟩
      · obtain rfl := SI ho
        have v7 := hpv hp 7 (by simp)
        have ww7 := (y7 v7).1
        have v9 := hpv hp 9 (by simp)
        have ww9 := (y9 v9).1
        have hbw := hbw (nf (by rw [hz]; decide) (fun q => (y14 q).2.2.2.2.2.2.2.2.2.2.1) hi)
        refine C_ ho 29 (qj h.name (h.tk) TA tn tc w') fun e u hg => ?_
        · obtain ⟨he, hb⟩ := hg
          refine ⟨.agg #[.string h.name, .int .i8 h.tk, .slice TA tn tc], he, ?_⟩
          have hbs := hbw.size
          have hzz := HZ.out
          have hbs2 := hb.size
          exact ⟨pd hdf, ps hsz, KX hx, X, Gw, kw, Gb, mb, cb, t2, K1 y0, K1 y1, K1 y2, K1 y3, K1 y4, K1 y5, K1 y6, K1 y7, K1 y8, K1 y9, (fun _ => ⟨pS hsz, (zA ((y7 v7).2)), (zA v7), (zA ((y9 v9).2)), (zA v9)⟩), KN y11, KN y12, KN y13, KN y14, (fun _ => hbw.trans (hb.mono hbw.size))⟩
      · obtain rfl := SI ho
        refine zW ho rfl (zm 30 rfl (v := .slice (some ⟨w'.heap.size, 0, none⟩) 1 1) (w2 := w'.alloc (.cells #[.string h.name, .int .i8 h.tk, .slice TA tn tc] 168)) ?_ ?_)
        · have v10 := hpv hp 10 (by simp)
          have ww10 := (y10 v10).1
          exact EV
        · have v10 := hpv hp 10 (by simp)
          have hbw := hbw (nf (by rw [hz]; decide) (fun q => (y14 q).2.2.2.2.2.2.2.2.2.2.2.1) hi)
          have hbs := hbw.size
          have hzz := HZ.out
          have hsa : (w'.alloc (.cells #[.string h.name, .int .i8 h.tk, .slice TA tn tc] 168)).heap.size = w'.heap.size + 1 := by simp
          have hba : Below w'.heap.size w' (w'.alloc (.cells #[.string h.name, .int .i8 h.tk, .slice TA tn tc] 168)) := (Below.refl _ _).alloc (Nat.le_refl _) _
          have hnew := zF w' (.cells #[.string h.name, .int .i8 h.tk, .slice TA tn tc] 168)
          exact ⟨pd hdf, ps hsz, KX hx, w'.heap.size, Gw, kw, Gb, mb, cb, t2, K1 y0, K1 y1, K1 y2, K1 y3, K1 y4, K1 y5, K1 y6, K1 y7, K1 y8, K1 y9, K1 y10, (fun _ => ⟨pS hsz, (zA ((y10 v10).2.1)), (zA ((y10 v10).2.2.1)), (zA ((y10 v10).2.2.2.1)), (zA ((y10 v10).2.2.2.2)), (zA v10), (fun _ => Ck.EAt.one (t := (Ck.TT h)) hnew (Ck.Ly.later (HT.out.later hbw) hba))⟩), KN y12, KN y13, KN y14, (fun _ => hbw.alloc hbw.size _)⟩
      · obtain rfl := SI ho
        have v5 := hpv hp 5 (by simp)
        have ww5 := (y5 v5)
        have v11 := hpv hp 11 (by simp)
        have ww11 := (y11 v11).1
        have hbw := hbw (nf (by rw [hz]; decide) (fun q => (y14 q).2.2.2.2.2.2.2.2.2.2.2.2.1) hi)
        refine C_ ho 31 (jH (Ck.Cut Q w.heap.size (w.heap.size + 3)) l [(h.name, (Ck.TT h))] A n c X 1 1 w' (HE.out.below hbw) (((y11 v11).2.2.2.2.2.2) hi) (by decide) hn20) fun e u hg => ?_
        · obtain ⟨Gw', kw', rfl, he, hb⟩ := hg
          refine ⟨.slice Gw' (n + 1) kw', rfl, ?_⟩
          have hbs := hbw.size
          have hzz := HZ.out
          have hbs2 := hb.size
          exact ⟨pd hdf, ps hsz, KX hx, X, Gw', kw', Gb, mb, cb, t2, K1 y0, K1 y1, K1 y2, K1 y3, K1 y4, K1 y5, K1 y6, K1 y7, K1 y8, K1 y9, K1 y10, (kF y11 (fun q => ⟨pn q.1, zA q.2.1, zA q.2.2.1, zA q.2.2.2.1, zA q.2.2.2.2.1, zA q.2.2.2.2.2.1, (fun qu => (zS qu).elim)⟩)), (fun _ => ⟨pS hsz, (zA v5), (zA ((y11 v11).2.1)), (zA ((y11 v11).2.2.1)), (zA ((y11 v11).2.2.2.1)), (zA ((y11 v11).2.2.2.2.1)), (zA ((y11 v11).2.2.2.2.2.1)), (zA v11), (fun _ => he)⟩), KN y13, KN y14, (fun _ => hbw.trans (hb.mono hbw.size))⟩
      · obtain rfl := SI ho
        have v0 := hpv hp 0 (by simp)
        have ww0 := (y0 v0)
        have v4 := hpv hp 4 (by simp)
        have ww4 := (y4 v4).1
        have v12 := hpv hp 12 (by simp)
        have ww12 := (y12 v12).1
        have hbw := hbw (nf (by rw [hz]; decide) (fun q => (y14 q).2.2.2.2.2.2.2.2.2.2.2.2.2.1) hi)
        refine M_ ho 32 (CT2.out Gw kw w' hbw (((y12 v12).2.2.2.2.2.2.2.2) hi)) fun e u hg => ?_
        · rcases Ck.Post.split hg with ⟨E, pp, x, hr2, hg⟩ | ⟨t2', hr2, hg⟩
          · have HP : Ck.Post Q w R e u := by rw [HR.out, P1.out]; show Ck.Post Q w (if rv.D.ag t1 (Ck.TT h) = true then _ else _) e u; rw [if_pos P2.out, hr2]; exact Ck.Gave.from hg (hfrom.out w' hbw)
            exact vH
          · obtain ⟨Gb', mb', cb', rfl, hl, hb⟩ := hg
            refine .inl ?_
            refine ⟨.agg #[.int .i8 t2'.1, .slice Gb' mb' cb'], rfl, ?_⟩
            have hbs := hbw.size
            have hzz := HZ.out
            have hbs2 := hb.size
            exact ⟨pd hdf, ps hsz, KX hx, X, Gw, kw, Gb', mb', cb', t2', K1 y0, K1 y1, K1 y2, K1 y3, K1 y4, K1 y5, K1 y6, K1 y7, K1 y8, K1 y9, K1 y10, (kF y11 (fun q => ⟨pn q.1, zA q.2.1, zA q.2.2.1, zA q.2.2.2.1, zA q.2.2.2.2.1, zA q.2.2.2.2.2.1, (kU q.2.2.2.2.2.2 (fun q => (Ck.EAt.below q hb)))⟩)), (kF y12 (fun q => ⟨pn q.1, zA q.2.1, zA q.2.2.1, zA q.2.2.2.1, zA q.2.2.2.2.1, zA q.2.2.2.2.2.1, zA q.2.2.2.2.2.2.1, zA q.2.2.2.2.2.2.2.1, (fun qu => (zS qu).elim)⟩)), (fun _ => ⟨pS hsz, (zA v0), (zA ((y4 v4).2.1)), (zA ((y4 v4).2.2.1)), (zA ((y4 v4).2.2.2)), (zA v4), (zA ((y12 v12).2.1)), (zA ((y12 v12).2.2.1)), (zA ((y12 v12).2.2.2.1)), (zA ((y12 v12).2.2.2.2.1)), (zA ((y12 v12).2.2.2.2.2.1)), (zA ((y12 v12).2.2.2.2.2.2.1)), (zA ((y12 v12).2.2.2.2.2.2.2.1)), (zA v12), hr2, Ck.Ly.weak hl (fun b _ hq => Ck.Cut.in (by omega) hq)⟩), KN y14, (fun _ => hbw.trans (hb.mono hbw.size))⟩
      · obtain rfl := SI ho
        have v13 := hpv hp 13 (by simp)
        have ww13 := (y13 v13).1
        have hbw := hbw hi
        have hbox := zC hbw (zD H2.out) H2.out
        obtain ⟨bc0, bc1, bf0, bf1, -⟩ := zM hbox
        refine zW ho rfl (zx rfl (w2 := (w'.setCell ⟨w.heap.size + 1 + 1, 0, none⟩ (.int .i8 t2.1)).setCell ⟨w.heap.size + 1 + 1, 1, none⟩ (.slice Gb mb cb)) ?_ ?_)
        · exact EV
        · have hsa : ((w'.setCell ⟨w.heap.size + 1 + 1, 0, none⟩ (.int .i8 t2.1)).setCell ⟨w.heap.size + 1 + 1, 1, none⟩ (.slice Gb mb cb)).heap.size = w'.heap.size := by simp
          have hbs := hbw.size
          have hzz := HZ.out
          exact ⟨hdf, hsz, hx, X, Gw, kw, Gb, mb, cb, t2, K1 y0, K1 y1, K1 y2, K1 y3, K1 y4, K1 y5, K1 y6, K1 y7, K1 y8, K1 y9, K1 y10, (kF y11 (fun q => ⟨q.1, zA q.2.1, zA q.2.2.1, zA q.2.2.2.1, zA q.2.2.2.2.1, zA q.2.2.2.2.2.1, (kT ((y13 v13).2.2.2.2.2.2.2.2.2.2.2.2.2.1))⟩)), (kF y12 (fun q => ⟨q.1, zA q.2.1, zA q.2.2.1, zA q.2.2.2.1, zA q.2.2.2.2.1, zA q.2.2.2.2.2.1, zA q.2.2.2.2.2.2.1, zA q.2.2.2.2.2.2.2.1, (kT v13)⟩)), K1 y13, (fun _ => ⟨(zA ((y13 v13).2.1)), (zA ((y13 v13).2.2.1)), (zA ((y13 v13).2.2.2.1)), (zA ((y13 v13).2.2.2.2.1)), (zA ((y13 v13).2.2.2.2.2.1)), (zA ((y13 v13).2.2.2.2.2.2.1)), (zA ((y13 v13).2.2.2.2.2.2.2.1)), (zA ((y13 v13).2.2.2.2.2.2.2.2.1)), (zA ((y13 v13).2.2.2.2.2.2.2.2.2.1)), (zA ((y13 v13).2.2.2.2.2.2.2.2.2.2.1)), (zA ((y13 v13).2.2.2.2.2.2.2.2.2.2.2.1)), (zA ((y13 v13).2.2.2.2.2.2.2.2.2.2.2.2.1)), (zA ((y13 v13).2.2.2.2.2.2.2.2.2.2.2.2.2.1)), (zA v13), zT hbox _ _, zL (hfrom.out w' hbw) (by omega) _ _⟩), (fun qu => (zS qu).elim)⟩
    · rintro listed u w' t ht hu ⟨-, -, -, X, Gw, kw, Gb, mb, cb, t2, y0, y1, y2, y3, y4, y5, y6, y7, y8, y9, y10, y11, y12, y13, y14, hbw⟩ hall
      have v13 := hall 13 (by decide)
      have v14 := hall 14 (by decide)
      have HBX := k0_ ((y14 v14).2.2.2.2.2.2.2.2.2.2.2.2.2.2.2)
      have P3 := ((y13 v13).2.2.2.2.2.2.2.2.2.2.2.2.2.2.1)
      have hl := ((y13 v13).2.2.2.2.2.2.2.2.2.2.2.2.2.2.2)
      have hx := ((y14 v14).2.2.2.2.2.2.2.2.2.2.2.2.2.2.1)
      clear y0 y1 y2 y3 y4 y5 y6 y7 y8 y9 y10 y11 y12 y13 y14 v13 v14 hall hu
      clear hbw
      simp only [over, List.setIfInBounds_toArray, List.set_cons_succ, List.set_cons_zero] at ht
      subst ht
      obtain ⟨k0, k1', -, -, -⟩ := zM hx
      go_wp2_with fail
      refine ⟨rfl, .agg #[.int .i8 t2.1, .slice Gb mb cb], by simp [results, Tryz.results102, go_sem, k0, k1'], ?_⟩
      rw [HR.out, P1.out]; show Ck.Post Q w (if rv.D.ag t1 (Ck.TT h) = true then _ else _) _ _; rw [if_pos P2.out, P3]
      exact ⟨Gb, mb, cb, rfl, hl.weak (fun b _ hq => hq.out (by omega)), HBX.out⟩
end Go.Proofs.YtgjemmmbnpkamaaGreatDoor
