/-
  Layer 9: over, a choice. Layers 9 and 11: rules.copied: a right type, in new memory.
-/
import Derived.Test.YtekjhcfjpedbkaaGreatDoorM22
namespace Go.Proofs.YtekjhcfjpedbkaaGreatDoor
open Go.RowKit
set_option maxHeartbeats 1500000 in
set_option maxRecDepth 100000 in
theorem ckover_8 (rv : Cg.Rv) (Q : Nat → Prop) (h : Hd) (p : Pl) (a b c : Ck.T2) (Y n cap : Nat) (w : World) (hk : h.kind = 8) (hn : n = 3) (hR : Ck.Row Q w [a, b, c] Y) (hS : Shapes w) :
    Calls Tryz.prog 143 #[.agg #[.func (Fn.func rv.fr) #[] rv.cpt, .func (Fn.func rv.fa) #[] #[], .func (Fn.func rv.fm) #[] #[], .func (Fn.func rv.ft) #[] #[], rv.vg], .agg #[.int .i8 h.kind, .string h.name, .string h.arg, .int .i64 h.num, .int .i8 h.tk, .slice p.TA p.tn p.tc, .int .i8 h.uk, .slice p.UA p.un p.uc, .int .i64 h.label, .int .i64 h.pos, .slice p.A p.n p.c], .slice (some ⟨Y, 0, none⟩) n cap] w (Ck.Post Q w (Cg.over rv.D h a b c)) := by
  rw [Cg.over_8 _ _ _ _ _ hk]
  obtain ⟨Ga, ma, ca, a0, a1, aL⟩ := hR.cell 0 a rfl
  obtain ⟨Gb, mb, cb, b0, b1, bL⟩ := hR.cell 1 b rfl
  obtain ⟨Gc, mc, cc, c0, c1, cL⟩ := hR.cell 2 c rfl
  obtain ⟨w1, hw1, hB3, h0, h1, h2, hz⟩ := boxes3 w (.cells #[.func (Fn.func rv.fr) #[] rv.cpt, .func (Fn.func rv.fa) #[] #[], .func (Fn.func rv.fm) #[] #[], .func (Fn.func rv.ft) #[] #[], rv.vg] 60) (.cells #[.int .i8 h.kind, .string h.name, .string h.arg, .int .i64 h.num, .int .i8 h.tk, .slice p.TA p.tn p.tc, .int .i8 h.uk, .slice p.UA p.un p.uc, .int .i64 h.label, .int .i64 h.pos, .slice p.A p.n p.c] 28) (.cells #[.int .i8 0, .slice none 0 0] 25)
  have HW1 := Lib.hid hw1
  have HB3 := Lib.hid hB3
  have H0 := Lib.hid h0
  have H1 := Lib.hid h1
  have H2 := Lib.hid h2
  have HZ := Lib.hid hz
  have HAL : Hid (Ck.Ly (Ck.Cut Q w.heap.size (w.heap.size + 3)) w1 a Ga ma ca) := Lib.hid ((aL.weak (fun b hl hq => .inl ⟨hq, hl⟩)).later hB3)
  have HBL : Hid (Ck.Ly (Ck.Cut Q w.heap.size (w.heap.size + 3)) w1 b Gb mb cb) := Lib.hid ((bL.weak (fun b hl hq => .inl ⟨hq, hl⟩)).later hB3)
  have HCL : Hid (Ck.Ly (Ck.Cut Q w.heap.size (w.heap.size + 3)) w1 c Gc mc cc) := Lib.hid ((cL.weak (fun b hl hq => .inl ⟨hq, hl⟩)).later hB3)
  have HS := Lib.hid (hS.below hB3)
  have hfrom := Lib.hid (fun (W : World) (hb : Below w1.heap.size w1 W) => hB3.trans (hb.mono hB3.size))
  have HA := Lib.hid (And.intro (keep_cell a0 hB3) (keep_cell a1 hB3))
  have HB := Lib.hid (And.intro (keep_cell b0 hB3) (keep_cell b1 hB3))
  have HC := Lib.hid (And.intro (keep_cell c0 hB3) (keep_cell c1 hB3))
  have HK := Lib.hid (fun (W : World) (hb : Below w1.heap.size w1 W) => (show W.cell? ⟨w.heap.size, 0, none⟩ = some (.func (Fn.func rv.fr) #[] rv.cpt) ∧ W.cell? ⟨w.heap.size, 1, none⟩ = some (.func (Fn.func rv.fa) #[] #[]) ∧ W.cell? ⟨w.heap.size, 2, none⟩ = some (.func (Fn.func rv.fm) #[] #[]) ∧ W.cell? ⟨w.heap.size, 3, none⟩ = some (.func (Fn.func rv.ft) #[] #[]) ∧ W.cell? ⟨w.heap.size, 4, none⟩ = some rv.vg ∧ W.cell? ⟨w.heap.size + 1, 0, none⟩ = some (.int .i8 h.kind) ∧ W.cell? ⟨w.heap.size + 1, 1, none⟩ = some (.string h.name) ∧ W.cell? ⟨w.heap.size + 1, 2, none⟩ = some (.string h.arg) ∧ W.cell? ⟨w.heap.size + 1, 3, none⟩ = some (.int .i64 h.num) ∧ W.cell? ⟨w.heap.size + 1, 4, none⟩ = some (.int .i8 h.tk) ∧ W.cell? ⟨w.heap.size + 1, 5, none⟩ = some (.slice p.TA p.tn p.tc) ∧ W.cell? ⟨w.heap.size + 1, 6, none⟩ = some (.int .i8 h.uk) ∧ W.cell? ⟨w.heap.size + 1, 7, none⟩ = some (.slice p.UA p.un p.uc) ∧ W.cell? ⟨w.heap.size + 1, 8, none⟩ = some (.int .i64 h.label) ∧ W.cell? ⟨w.heap.size + 1, 9, none⟩ = some (.int .i64 h.pos) ∧ W.cell? ⟨w.heap.size + 1, 10, none⟩ = some (.slice p.A p.n p.c) ∧ W.cell? ⟨Y, 0, none⟩ = some (.int .i8 a.1) ∧ W.cell? ⟨Y, 1, none⟩ = some (.slice Ga ma ca) ∧ W.cell? ⟨Y, 2, none⟩ = some (.int .i8 b.1) ∧ W.cell? ⟨Y, 3, none⟩ = some (.slice Gb mb cb) ∧ W.cell? ⟨Y, 4, none⟩ = some (.int .i8 c.1) ∧ W.cell? ⟨Y, 5, none⟩ = some (.slice Gc mc cc) from by
    obtain ⟨r0, r1, r2, r3, r4, -⟩ := own5 (heap_below hb (heap_lt H0.out) H0.out)
    obtain ⟨q0, q1, q2, q3, q4, q5, q6, q7, q8, q9, q10, ql⟩ := own11 (heap_below hb (heap_lt H1.out) H1.out)
    exact ⟨r0, r1, r2, r3, r4, q0, q1, q2, q3, q4, q5, q6, q7, q8, q9, q10, keep_cell HA.out.1 hb, keep_cell HA.out.2 hb, keep_cell HB.out.1 hb, keep_cell HB.out.2 hb, keep_cell HC.out.1 hb, keep_cell HC.out.2 hb⟩))
  clear hR hS a0 a1 aL b0 b1 bL c0 c1 cL hB3 h0 h1 h2 hz
  subst hn
  have HKK := Lib.hid hk
  clear hk
  obtain ⟨R, hR⟩ : ∃ R, R = (if rv.D.ag a (2, .nil) = true then Cg.meet rv.D h b c else Ck.fault h 91) := ⟨_, rfl⟩
  rw [← hR]
  have HR := Lib.hid hR
  clear hR
  go_enter Tryz.func143, Tryz.ntmps143
  go_upto_region 1 with fail
  rw [← HW1.out]
  obtain ⟨r0, r1, r2, r3, r4, q0, q1, q2, q3, q4, q5, q6, q7, q8, q9, q10, y0, y1, y2, y3, y4, y5⟩ := HK.out w1 (Below.refl _ _)
  rw [HKK.out] at q0
  clear hw1
  go_upto_region 7 with fail
  clear r0 r1 r2 r3 r4 q0 q1 q2 q3 q4 q5 q6 q7 q8 q9 q10 y0 y1 y2 y3 y4 y5
  refine region_inv_end2 170 rfl [40, 41, 42, 43, 44, 45, 46] (by kernel_rfl) (by kernel_rfl) (by kernel_rfl) (fun listed a' w' => a'.defers = [] ∧ a'.tmps.size = 170 ∧ (a'.eval (.tmp 2) = .slice (some ⟨Y, 0, none⟩) 3 cap ∧ a'.eval (.tmp 3) = .pointer (some ⟨w.heap.size, 0, none⟩) ∧ a'.eval (.tmp 4) = .pointer (some ⟨w.heap.size + 1, 0, none⟩) ∧ a'.eval (.tmp 6) = .pointer (some ⟨w.heap.size + 1 + 1, 0, none⟩)) ∧ (listed[0]? = some true → (a'.eval (.tmp 40) = .agg #[.func (Fn.func rv.fr) #[] rv.cpt, .func (Fn.func rv.fa) #[] #[], .func (Fn.func rv.fm) #[] #[], .func (Fn.func rv.ft) #[] #[], rv.vg])) ∧ (listed[1]? = some true → (a'.eval (.tmp 41) = .agg #[.int .i8 h.kind, .string h.name, .string h.arg, .int .i64 h.num, .int .i8 h.tk, .slice p.TA p.tn p.tc, .int .i8 h.uk, .slice p.UA p.un p.uc, .int .i64 h.label, .int .i64 h.pos, .slice p.A p.n p.c])) ∧ (listed[2]? = some true → (a'.eval (.tmp 42) = .slice (some ⟨Y, 0, none⟩) 3 cap)) ∧ (listed[3]? = some true → (a'.eval (.tmp 43) = .pointer (some ⟨Y, 0, none⟩))) ∧ (listed[4]? = some true → (a'.eval (.tmp 44) = .agg #[.int .i8 a.1, .slice Ga ma ca])) ∧ (listed[5]? = some true → (a'.eval (.tmp 45) = .agg #[.int .i8 2, .slice none 0 0])) ∧ (listed[6]? = some true → (a'.eval (.tmp 46) = .tuple #[]) ∧ (rv.D.ag a (2, .nil) = true)) ∧ Below w1.heap.size w1 w') (fun _ _ _ h => h.1) ?_ ?_ ?_
  · have hz := HZ.out
    refine ⟨rfl, rfl, ⟨rfl, rfl, rfl, rfl⟩, FH, FH, FH, FH, FH, FH, FH, (Below.refl _ _).drew⟩
  · rintro listed a' w' i o ⟨hdf, hsz, hx, y0, y1, y2, y3, y4, y5, y6, hbw⟩ hz hsz0 ho hi hp
    have hi13 : i < 7 := by
      rcases Nat.lt_or_ge i 7 with q | q
      · exact q
      · rw [Array.getElem?_eq_none (by simpa using q)] at ho; cases ho
    rcases (by omega : i = 0 ∨ i = 1 ∨ i = 2 ∨ i = 3 ∨ i = 4 ∨ i = 5 ∨ i = 6) with rfl | rfl | rfl | rfl | rfl | rfl | rfl
    · obtain rfl := SI ho
      obtain ⟨c0, c1, c2, c3, c4, c5, c6, c7, c8, c9, c10, c11, c12, c13, c14, c15, c16, c17, c18, c19, c20, c21⟩ := HK.out w' hbw
      exact V_ ho 40 ⟨pd hdf, ps hsz, KX hx, (fun _ => pS hsz), K1 y1, K1 y2, K1 y3, K1 y4, K1 y5, K1 y6, hbw⟩
    · obtain rfl := SI ho
      obtain ⟨c0, c1, c2, c3, c4, c5, c6, c7, c8, c9, c10, c11, c12, c13, c14, c15, c16, c17, c18, c19, c20, c21⟩ := HK.out w' hbw
      exact V_ ho 41 ⟨pd hdf, ps hsz, KX hx, K1 y0, (fun _ => pS hsz), K1 y2, K1 y3, K1 y4, K1 y5, K1 y6, hbw⟩
    · obtain rfl := SI ho
      exact V_ ho 42 ⟨pd hdf, ps hsz, KX hx, K1 y0, K1 y1, (fun _ => pS hsz), K1 y3, K1 y4, K1 y5, K1 y6, hbw⟩
    · obtain rfl := SI ho
      have v2 := hpv hp 2 (by simp)
      have ww2 := (y2 v2)
      exact V_ ho 43 ⟨pd hdf, ps hsz, KX hx, K1 y0, K1 y1, K1 y2, (fun _ => pS hsz), K1 y4, K1 y5, K1 y6, hbw⟩
    · obtain rfl := SI ho
      have v3 := hpv hp 3 (by simp)
      have ww3 := (y3 v3)
      obtain ⟨c0, c1, c2, c3, c4, c5, c6, c7, c8, c9, c10, c11, c12, c13, c14, c15, c16, c17, c18, c19, c20, c21⟩ := HK.out w' hbw
      exact V_ ho 44 ⟨pd hdf, ps hsz, KX hx, K1 y0, K1 y1, K1 y2, K1 y3, (fun _ => pS hsz), K1 y5, K1 y6, hbw⟩
    · obtain rfl := SI ho
      refine C_ ho 45 (ckof_any 2 none 0 0 w') fun e u hg => ?_
      · obtain ⟨he, hb⟩ := hg
        refine ⟨.agg #[.int .i8 2, .slice none 0 0], he, ?_⟩
        have hbs := hbw.size
        have hzz := HZ.out
        have hbs2 := hb.size
        exact ⟨pd hdf, ps hsz, KX hx, K1 y0, K1 y1, K1 y2, K1 y3, K1 y4, (fun _ => pS hsz), K1 y6, hbw.trans (hb.mono hbw.size)⟩
    · obtain rfl := SI ho
      have v0 := hpv hp 0 (by simp)
      have ww0 := (y0 v0)
      have v1 := hpv hp 1 (by simp)
      have ww1 := (y1 v1)
      have v4 := hpv hp 4 (by simp)
      have ww4 := (y4 v4)
      have v5 := hpv hp 5 (by simp)
      have ww5 := (y5 v5)
      refine M_ ho 46 (ckwant_any rv h p a.1 a.2 Ga ma ca 2 .nil none 0 0 w' (HAL.out.later hbw).is (leaf_is (by decide) w') (HS.out.below hbw)) fun e u hg => ?_
      · rcases hg with ⟨hq, hg⟩ | ⟨hq, hg⟩
        · have HP : Ck.Post Q w R e u := by rw [HR.out, if_neg (ne_of_false (show rv.D.ag a (2, .nil) = false from hq))]; exact Ck.Gave.from hg (hfrom.out w' hbw)
          obtain ⟨g, rfl, hg2⟩ := hg
          exact .inr ⟨_, rfl, hdf, HP⟩
        · obtain ⟨he, hb⟩ := hg
          refine .inl ?_
          refine ⟨.tuple #[], he, ?_⟩
          have hbs := hbw.size
          have hzz := HZ.out
          have hbs2 := hb.size
          exact ⟨pd hdf, ps hsz, KX hx, K1 y0, K1 y1, K1 y2, K1 y3, K1 y4, K1 y5, (fun _ => ⟨pS hsz, hq⟩), hbw.trans (hb.mono hbw.size)⟩
  · rintro listed u w' t ht hu ⟨-, -, -, y0, y1, y2, y3, y4, y5, y6, hbw⟩ hall
    have v6 := hall 6 (by decide)
    have HBW := Lib.hid hbw
    have P1 := Lib.hid ((y6 v6).2)
    clear y0 y1 y2 y3 y4 y5 y6 v6 hall hu
    clear hbw
    simp only [over, List.setIfInBounds_toArray, List.set_cons_succ, List.set_cons_zero] at ht
    subst ht
    obtain ⟨r0, r1, r2, r3, r4, q0, q1, q2, q3, q4, q5, q6, q7, q8, q9, q10, y0, y1, y2, y3, y4, y5⟩ := HK.out w' HBW.out
    go_upto_region 8 with fail
    clear r0 r1 r2 r3 r4 q0 q1 q2 q3 q4 q5 q6 q7 q8 q9 q10 y0 y1 y2 y3 y4 y5
    refine region_inv_end2 170 rfl [47, 48, 49, 50, 51, 52, 53, 54, 55] (by kernel_rfl) (by kernel_rfl) (by kernel_rfl) (fun listed a' w' => a'.defers = [] ∧ a'.tmps.size = 170 ∧ (a'.eval (.tmp 2) = .slice (some ⟨Y, 0, none⟩) 3 cap ∧ a'.eval (.tmp 3) = .pointer (some ⟨w.heap.size, 0, none⟩) ∧ a'.eval (.tmp 4) = .pointer (some ⟨w.heap.size + 1, 0, none⟩) ∧ a'.eval (.tmp 6) = .pointer (some ⟨w.heap.size + 1 + 1, 0, none⟩)) ∧ ∃ G mg cg, (listed[0]? = some true → (a'.eval (.tmp 47) = .agg #[.func (Fn.func rv.fr) #[] rv.cpt, .func (Fn.func rv.fa) #[] #[], .func (Fn.func rv.fm) #[] #[], .func (Fn.func rv.ft) #[] #[], rv.vg])) ∧ (listed[1]? = some true → (a'.eval (.tmp 48) = .agg #[.int .i8 h.kind, .string h.name, .string h.arg, .int .i64 h.num, .int .i8 h.tk, .slice p.TA p.tn p.tc, .int .i8 h.uk, .slice p.UA p.un p.uc, .int .i64 h.label, .int .i64 h.pos, .slice p.A p.n p.c])) ∧ (listed[2]? = some true → (a'.eval (.tmp 49) = .slice (some ⟨Y, 0, none⟩) 3 cap)) ∧ (listed[3]? = some true → (a'.eval (.tmp 50) = .pointer (some ⟨Y, 2, none⟩)) ∧ (listed[2]? = some true)) ∧ (listed[4]? = some true → (a'.eval (.tmp 51) = .agg #[.int .i8 b.1, .slice Gb mb cb]) ∧ (listed[2]? = some true) ∧ (listed[3]? = some true)) ∧ (listed[5]? = some true → (a'.eval (.tmp 52) = .slice (some ⟨Y, 0, none⟩) 3 cap)) ∧ (listed[6]? = some true → (a'.eval (.tmp 53) = .pointer (some ⟨Y, 4, none⟩)) ∧ (listed[5]? = some true)) ∧ (listed[7]? = some true → (a'.eval (.tmp 54) = .agg #[.int .i8 c.1, .slice Gc mc cc]) ∧ (listed[5]? = some true) ∧ (listed[6]? = some true)) ∧ (listed[8]? = some true → (a'.eval (.tmp 55) = .agg #[.int .i8 (rv.D.mt b c).1, .slice G mg cg]) ∧ (listed[0]? = some true) ∧ (listed[1]? = some true) ∧ (listed[2]? = some true) ∧ (listed[3]? = some true) ∧ (listed[4]? = some true) ∧ (listed[5]? = some true) ∧ (listed[6]? = some true) ∧ (listed[7]? = some true) ∧ (rv.D.ag b c = true) ∧ (Ck.Ly (Ck.Cut Q w.heap.size (w.heap.size + 3)) w' (rv.D.mt b c) G mg cg)) ∧ (listed[9]? = some true → (listed[0]? = some true) ∧ (listed[1]? = some true) ∧ (listed[2]? = some true) ∧ (listed[3]? = some true) ∧ (listed[4]? = some true) ∧ (listed[5]? = some true) ∧ (listed[6]? = some true) ∧ (listed[7]? = some true) ∧ (listed[8]? = some true) ∧ (w'.heap[w.heap.size + 1 + 1]? = some (.cells #[.int .i8 (rv.D.mt b c).1, .slice G mg cg] 25 (0, 0))) ∧ (Below w.heap.size w w')) ∧ (listed[9]? = some false → Below w1.heap.size w1 w')) (fun _ _ _ h => h.1) ?_ ?_ ?_
    · have hz := HZ.out
      refine ⟨rfl, rfl, ⟨rfl, rfl, rfl, rfl⟩, none, 0, 0, FH, FH, FH, FH, FH, FH, FH, FH, FH, FH, (fun _ => HBW.out.drew)⟩
    · rintro listed a' w' i o ⟨hdf, hsz, hx, G, mg, cg, y0, y1, y2, y3, y4, y5, y6, y7, y8, y9, hbw⟩ hz hsz0 ho hi hp
      have hi13 : i < 10 := by
        rcases Nat.lt_or_ge i 10 with q | q
        · exact q
        · rw [Array.getElem?_eq_none (by simpa using q)] at ho; cases ho
      rcases (by omega : i = 0 ∨ i = 1 ∨ i = 2 ∨ i = 3 ∨ i = 4 ∨ i = 5 ∨ i = 6 ∨ i = 7 ∨ i = 8 ∨ i = 9) with rfl | rfl | rfl | rfl | rfl | rfl | rfl | rfl | rfl | rfl
      · obtain rfl := SI ho
        have hbu := hbw
        have hbw := hbw (nf (by rw [hz]; decide) (fun q => (y9 q).1) hi)
        obtain ⟨c0, c1, c2, c3, c4, c5, c6, c7, c8, c9, c10, c11, c12, c13, c14, c15, c16, c17, c18, c19, c20, c21⟩ := HK.out w' hbw
        exact V_ ho 47 ⟨pd hdf, ps hsz, KX hx, G, mg, cg, (fun _ => pS hsz), K1 y1, K1 y2, K1 y3, K1 y4, K1 y5, K1 y6, K1 y7, KN y8, KN y9, (kU hbu id)⟩
      · obtain rfl := SI ho
        have hbu := hbw
        have hbw := hbw (nf (by rw [hz]; decide) (fun q => (y9 q).2.1) hi)
        obtain ⟨c0, c1, c2, c3, c4, c5, c6, c7, c8, c9, c10, c11, c12, c13, c14, c15, c16, c17, c18, c19, c20, c21⟩ := HK.out w' hbw
        exact V_ ho 48 ⟨pd hdf, ps hsz, KX hx, G, mg, cg, K1 y0, (fun _ => pS hsz), K1 y2, K1 y3, K1 y4, K1 y5, K1 y6, K1 y7, KN y8, KN y9, (kU hbu id)⟩
      · obtain rfl := SI ho
        exact V_ ho 49 ⟨pd hdf, ps hsz, KX hx, G, mg, cg, K1 y0, K1 y1, (fun _ => pS hsz), KN y3, KN y4, K1 y5, K1 y6, K1 y7, KN y8, KN y9, (kU hbw id)⟩
      · obtain rfl := SI ho
        have v2 := hpv hp 2 (by simp)
        have ww2 := (y2 v2)
        exact V_ ho 50 ⟨pd hdf, ps hsz, KX hx, G, mg, cg, K1 y0, K1 y1, K1 y2, (fun _ => ⟨pS hsz, (set_keep v2)⟩), KN y4, K1 y5, K1 y6, K1 y7, KN y8, KN y9, (kU hbw id)⟩
      · obtain rfl := SI ho
        have v3 := hpv hp 3 (by simp)
        have ww3 := (y3 v3).1
        have hbu := hbw
        have hbw := hbw (nf (by rw [hz]; decide) (fun q => (y9 q).2.2.2.2.1) hi)
        obtain ⟨c0, c1, c2, c3, c4, c5, c6, c7, c8, c9, c10, c11, c12, c13, c14, c15, c16, c17, c18, c19, c20, c21⟩ := HK.out w' hbw
        exact V_ ho 51 ⟨pd hdf, ps hsz, KX hx, G, mg, cg, K1 y0, K1 y1, K1 y2, K1 y3, (fun _ => ⟨pS hsz, (set_keep ((y3 v3).2)), (set_keep v3)⟩), K1 y5, K1 y6, K1 y7, KN y8, KN y9, (kU hbu id)⟩
      · obtain rfl := SI ho
        exact V_ ho 52 ⟨pd hdf, ps hsz, KX hx, G, mg, cg, K1 y0, K1 y1, K1 y2, K1 y3, K1 y4, (fun _ => pS hsz), KN y6, KN y7, KN y8, KN y9, (kU hbw id)⟩
      · obtain rfl := SI ho
        have v5 := hpv hp 5 (by simp)
        have ww5 := (y5 v5)
        exact V_ ho 53 ⟨pd hdf, ps hsz, KX hx, G, mg, cg, K1 y0, K1 y1, K1 y2, K1 y3, K1 y4, K1 y5, (fun _ => ⟨pS hsz, (set_keep v5)⟩), KN y7, KN y8, KN y9, (kU hbw id)⟩
      · obtain rfl := SI ho
        have v6 := hpv hp 6 (by simp)
        have ww6 := (y6 v6).1
        have hbu := hbw
        have hbw := hbw (nf (by rw [hz]; decide) (fun q => (y9 q).2.2.2.2.2.2.2.1) hi)
        obtain ⟨c0, c1, c2, c3, c4, c5, c6, c7, c8, c9, c10, c11, c12, c13, c14, c15, c16, c17, c18, c19, c20, c21⟩ := HK.out w' hbw
        exact V_ ho 54 ⟨pd hdf, ps hsz, KX hx, G, mg, cg, K1 y0, K1 y1, K1 y2, K1 y3, K1 y4, K1 y5, K1 y6, (fun _ => ⟨pS hsz, (set_keep ((y6 v6).2)), (set_keep v6)⟩), KN y8, KN y9, (kU hbu id)⟩
      · obtain rfl := SI ho
        have v0 := hpv hp 0 (by simp)
        have ww0 := (y0 v0)
        have v1 := hpv hp 1 (by simp)
        have ww1 := (y1 v1)
        have v4 := hpv hp 4 (by simp)
        have ww4 := (y4 v4).1
        have v7 := hpv hp 7 (by simp)
        have ww7 := (y7 v7).1
        have hbw := hbw (nf (by rw [hz]; decide) (fun q => (y9 q).2.2.2.2.2.2.2.2.1) hi)
        refine M_ ho 55 (ckmeet_any rv (Ck.Cut Q w.heap.size (w.heap.size + 3)) h p b Gb mb cb c Gc mc cc w' (HBL.out.later hbw) (HCL.out.later hbw) (HS.out.below hbw)) fun e u hg => ?_
        · rcases hg with ⟨hq, hg⟩ | ⟨hq, hg⟩
          · have HP : Ck.Post Q w R e u := by rw [HR.out, if_pos P1.out]; unfold Cg.meet; rw [if_neg (ne_of_false (show rv.D.ag b c = false from hq))]; exact Ck.Gave.from hg (hfrom.out w' hbw)
            obtain ⟨g, rfl, hg2⟩ := hg
            exact .inr ⟨_, rfl, hdf, HP⟩
          · obtain ⟨G', mg', cg', rfl, hl, hb⟩ := hg
            refine .inl ?_
            refine ⟨.agg #[.int .i8 (rv.D.mt b c).1, .slice G' mg' cg'], rfl, ?_⟩
            have hbs := hbw.size
            have hzz := HZ.out
            have hbs2 := hb.size
            exact ⟨pd hdf, ps hsz, KX hx, G', mg', cg', K1 y0, K1 y1, K1 y2, K1 y3, K1 y4, K1 y5, K1 y6, K1 y7, (fun _ => ⟨pS hsz, (set_keep v0), (set_keep v1), (set_keep ((y4 v4).2.1)), (set_keep ((y4 v4).2.2)), (set_keep v4), (set_keep ((y7 v7).2.1)), (set_keep ((y7 v7).2.2)), (set_keep v7), hq, Ck.Ly.weak (a := rv.D.mt b c) hl (fun _ _ hq => Ck.Cut.in (by omega) hq)⟩), KN y9, (fun _ => hbw.trans (hb.mono hbw.size))⟩
      · obtain rfl := SI ho
        have v8 := hpv hp 8 (by simp)
        have ww8 := (y8 v8).1
        have hbw := hbw hi
        have hbox := heap_below hbw (heap_lt H2.out) H2.out
        obtain ⟨bc0, bc1, bf0, bf1, -⟩ := own2 hbox
        refine wpOp_at ho rfl (wp_store rfl (w2 := (w'.setCell ⟨w.heap.size + 1 + 1, 0, none⟩ (.int .i8 (rv.D.mt b c).1)).setCell ⟨w.heap.size + 1 + 1, 1, none⟩ (.slice G mg cg)) ?_ ?_)
        · exact EV
        · have hsa : ((w'.setCell ⟨w.heap.size + 1 + 1, 0, none⟩ (.int .i8 (rv.D.mt b c).1)).setCell ⟨w.heap.size + 1 + 1, 1, none⟩ (.slice G mg cg)).heap.size = w'.heap.size := by simp
          have hbs := hbw.size
          have hzz := HZ.out
          exact ⟨hdf, hsz, hx, G, mg, cg, K1 y0, K1 y1, K1 y2, K1 y3, K1 y4, K1 y5, K1 y6, K1 y7, K1 y8, (fun _ => ⟨(set_keep ((y8 v8).2.1)), (set_keep ((y8 v8).2.2.1)), (set_keep ((y8 v8).2.2.2.1)), (set_keep ((y8 v8).2.2.2.2.1)), (set_keep ((y8 v8).2.2.2.2.2.1)), (set_keep ((y8 v8).2.2.2.2.2.2.1)), (set_keep ((y8 v8).2.2.2.2.2.2.2.1)), (set_keep ((y8 v8).2.2.2.2.2.2.2.2.1)), (set_keep v8), set_two hbox _ _, below_set2 (hfrom.out w' hbw) (by omega) _ _⟩), (fun qu => (set_self_false qu).elim)⟩
    · rintro listed u w' t ht hu ⟨-, -, -, G, mg, cg, y0, y1, y2, y3, y4, y5, y6, y7, y8, y9, hbw⟩ hall
      have v8 := hall 8 (by decide)
      have v9 := hall 9 (by decide)
      have HBX := Lib.hid ((y9 v9).2.2.2.2.2.2.2.2.2.2)
      have P2 := ((y8 v8).2.2.2.2.2.2.2.2.2.1)
      have hl := ((y8 v8).2.2.2.2.2.2.2.2.2.2)
      have hx := ((y9 v9).2.2.2.2.2.2.2.2.2.1)
      clear y0 y1 y2 y3 y4 y5 y6 y7 y8 y9 v8 v9 hall hu
      clear hbw
      simp only [over, List.setIfInBounds_toArray, List.set_cons_succ, List.set_cons_zero] at ht
      subst ht
      obtain ⟨k0, k1, -, -, -⟩ := own2 hx
      have hz := HZ.out
      go_wp2_with fail
      refine ⟨rfl, .agg #[.int .i8 (rv.D.mt b c).1, .slice G mg cg], by simp [results, Tryz.results143, go_sem, k0, k1], ?_⟩
      rw [HR.out, if_pos P1.out]; unfold Cg.meet; rw [if_pos P2]
      exact ⟨G, mg, cg, rfl, hl.weak (fun b _ hq => hq.out (by omega)), HBX.out⟩

theorem Ty.Is.anyP {w : World} {k : Int} {a b c d a' b' c' d' : Nat} {p1 p2 : Int} {f1 f2 : Fo} {A : Option Addr} {n m : Nat} (h : Ty.Is w k (.node a b p1 f1 (.node c d p2 f2 .nil)) A n m) : Ty.Is w k (.node a' b' p1 f1 (.node c' d' p2 f2 .nil)) A n m := ⟨h.lies, h.n_eq, h.n_le, h.c_le, h.lo, h.hi⟩
theorem Ty.Is.anyL {P : Nat → Prop} {w : World} {k : Int} {a b c d : Nat} {p1 p2 : Int} {f1 f2 : Fo} {A : Option Addr} {n m : Nat} (h : Ck.Ly P w (Ck.mk2 k (p1, f1) (p2, f2)) A n m) : Lone P w k (.node a b p1 f1 (.node c d p2 f2 .nil)) A n m := fun u hu => Ty.Is.anyP (h u hu)
theorem Ty.leaf_of {k : Int} {kids : Fo} (h : Ty.okT k kids = true) (h3 : ¬ 3 ≤ k) : kids = .nil := by
  unfold Ty.okT Ty.okK at h
  cases kids with
  | nil => rfl
  | node _ _ _ _ r => simp [Ty.len] at h; omega
set_option maxHeartbeats 8000000 in
set_option maxRecDepth 100000 in
theorem rcopied_any (K : Nat) : ∀ (k : Int) (kids : Fo) (A : Option Addr) (n c : Nat) (w : World), Ty.nodes kids < K → Ty.Is w k kids A n c → Ty.okT k kids = true →
    Calls Tryz.prog 57 #[.agg #[.int .i8 k, .slice A n c]] w (CopyL w k kids) := by
  induction K with
  | zero => intro _ _ _ _ _ _ hK; omega
  | succ K ih =>
    intro k kids A n c w hK hIs hok
    have hlo := hIs.lo
    have hhi := hIs.hi
    by_cases h3 : 3 ≤ k
    case neg =>
      have hnil : kids = .nil := Ty.leaf_of hok h3
      subst hnil
      have hn := hIs.n_eq
      simp only [Ty.len] at hn
      subst hn
      have HB2 := Lib.hid (below_n2 w (.cells #[.int .i8 k, .slice A 0 c] 25) (.cells #[.int .i8 0, .slice none 0 0] 25))
      obtain ⟨h0, h1⟩ := heap_n2 w (.cells #[.int .i8 k, .slice A 0 c] 25) (.cells #[.int .i8 0, .slice none 0 0] 25)
      have H1 := Lib.hid h1
      have CO := Lib.hid (fun (W : World) => ckof_any k none 0 0 W)
      clear ih hK hIs hok h3 h0 h1
      go_enter Tryz.func57, Tryz.ntmps57
      go_wp2_with fail
      refine (CO.out _).mono ?_
      rintro e w2 ⟨rfl, hb2⟩
      have HB3 := Lib.hid (HB2.out.trans (hb2.mono HB2.out.size))
      have z2 := heap_below hb2 (heap_lt H1.out) H1.out
      obtain ⟨x0, x1, f0, f1, xl⟩ := own2 z2
      clear hb2
      go_wp2_with fail
      have z3 := set_two z2 (.int .i8 k) (.slice none 0 0)
      obtain ⟨k0, k1, -, -, -⟩ := own2 z3
      exact bodyPost_ret (v := .agg #[.int .i8 k, .slice none 0 0]) (by simp [results, Tryz.results57, go_sem, k0, k1]) rfl ⟨none, 0, 0, rfl, (fun u _ => ⟨trivial, rfl, Nat.le_refl _, Nat.zero_le _, hlo, hhi⟩), below_set2 HB3.out (by omega) _ _⟩
    obtain ⟨a1, a2, p1, f1, a3, a4, p2, f2, rfl, o1, o2⟩ := Ty.two_of hok h3
    have hn := hIs.n_eq
    simp only [Ty.len] at hn
    subst hn
    simp only [Ty.nodes] at hK
    have hB2 := below_n2 w (.cells #[.int .i8 k, .slice A 2 c] 25) (.cells #[.int .i8 0, .slice none 0 0] 25)
    have hL := Ty.lies2 (hIs.below hB2).lies
    obtain ⟨bb, oo, B1, c1, B2, c2, rfl, x0, x1, x2, x3, i1, i2⟩ := hL
    obtain ⟨h0, h1⟩ := heap_n2 w (.cells #[.int .i8 k, .slice (some ⟨bb, oo, none⟩) 2 c] 25) (.cells #[.int .i8 0, .slice none 0 0] 25)
    have hz : ((w.alloc (.cells #[.int .i8 k, .slice (some ⟨bb, oo, none⟩) 2 c] 25)).alloc (.cells #[.int .i8 0, .slice none 0 0] 25)).heap.size = w.heap.size + 2 := by simp
    obtain ⟨w1, hw1⟩ : ∃ w1, w1 = (w.alloc (.cells #[.int .i8 k, .slice (some ⟨bb, oo, none⟩) 2 c] 25)).alloc (.cells #[.int .i8 0, .slice none 0 0] 25) := ⟨_, rfl⟩
    rw [← hw1] at hB2 h0 h1 hz x0 x1 x2 x3 i1 i2
    have HW1 := Lib.hid hw1
    have HZ := Lib.hid hz
    have H2 := Lib.hid h1
    have hfrom := Lib.hid (fun (W : World) (hb : Below w1.heap.size w1 W) => hB2.trans (hb.mono hB2.size))
    have CC1 := Lib.hid (fun (W : World) (hb : Below w1.heap.size w1 W) => ih p1 f1 B1 _ c1 W (by omega) (i1.below hb) o1)
    have CC2 := Lib.hid (fun (W : World) (hb : Below w1.heap.size w1 W) => ih p2 f2 B2 _ c2 W (by omega) (i2.below hb) o2)
    have HK := Lib.hid (fun (W : World) (hb : Below w1.heap.size w1 W) => (show W.cell? ⟨w.heap.size, 0, none⟩ = some (.int .i8 k) ∧ W.cell? ⟨w.heap.size, 1, none⟩ = some (.slice (some ⟨bb, oo, none⟩) 2 c) ∧ W.cell? ⟨bb, oo, none⟩ = some (.int .i8 p1) ∧ W.cell? ⟨bb, oo + 1, none⟩ = some (.slice B1 (Ty.len f1) c1) ∧ W.cell? ⟨bb, oo + 2, none⟩ = some (.int .i8 p2) ∧ W.cell? ⟨bb, oo + 3, none⟩ = some (.slice B2 (Ty.len f2) c2) from by
      obtain ⟨r0, r1, -, -, -⟩ := own2 (heap_below hb (heap_lt h0) h0)
      exact ⟨r0, r1, keep_cell x0 hb, keep_cell x1 hb, keep_cell x2 hb, keep_cell x3 hb⟩))
    have HKR := Lib.hid (And.intro hlo hhi)
    have hk0 : ((2 : Nat) : Int) = 2 := rfl
    clear ih hK hIs hok o1 o2 hB2 h0 h1 hz x0 x1 x2 x3 i1 i2 hlo hhi h3
    generalize Ty.len f1 = m1 at *
    generalize Ty.len f2 = m2 at *
    go_enter Tryz.func57, Tryz.ntmps57
    go_upto_region 1 with fail
    rw [← HW1.out]
    clear hw1 HW1
    obtain ⟨r0, r1, r2, r3, r4, r5⟩ := HK.out w1 (Below.refl _ _)
    go_upto_region 3 with fail
    clear r0 r1 r2 r3 r4 r5
    refine region_inv_end2 24 rfl [10, 11, 12, 13, 14, 15, 16, 17, 18, 19, 20, 21, 22, 23] (by kernel_rfl) (by kernel_rfl) (by kernel_rfl) (fun listed a' w' => a'.defers = [] ∧ a'.tmps.size = 24 ∧ (a'.eval (.tmp 1) = .pointer (some ⟨w.heap.size, 0, none⟩) ∧ a'.eval (.tmp 2) = .pointer (some ⟨w.heap.size + 1, 0, none⟩)) ∧ ∃ Ga ma ca Gb mb cb Y, (listed[0]? = some true → (a'.eval (.tmp 10) = .pointer (some ⟨w.heap.size, 0, none⟩))) ∧ (listed[1]? = some true → (a'.eval (.tmp 11) = .int .i8 k) ∧ (listed[0]? = some true)) ∧ (listed[2]? = some true → (a'.eval (.tmp 12) = .pointer (some ⟨w.heap.size, 1, none⟩))) ∧ (listed[3]? = some true → (a'.eval (.tmp 13) = .slice (some ⟨bb, oo, none⟩) 2 c) ∧ (listed[2]? = some true)) ∧ (listed[4]? = some true → (a'.eval (.tmp 14) = .pointer (some ⟨bb, oo, none⟩)) ∧ (listed[2]? = some true) ∧ (listed[3]? = some true)) ∧ (listed[5]? = some true → (a'.eval (.tmp 15) = .agg #[.int .i8 p1, .slice B1 m1 c1]) ∧ (listed[2]? = some true) ∧ (listed[3]? = some true) ∧ (listed[4]? = some true)) ∧ (listed[6]? = some true → (a'.eval (.tmp 16) = .agg #[.int .i8 p1, .slice Ga ma ca]) ∧ (listed[2]? = some true) ∧ (listed[3]? = some true) ∧ (listed[4]? = some true) ∧ (listed[5]? = some true) ∧ ((listed[12]? = some false → Ck.Ly (fun b => w1.heap.size ≤ b) w' (p1, f1) Ga ma ca))) ∧ (listed[7]? = some true → (a'.eval (.tmp 17) = .pointer (some ⟨w.heap.size, 1, none⟩))) ∧ (listed[8]? = some true → (a'.eval (.tmp 18) = .slice (some ⟨bb, oo, none⟩) 2 c) ∧ (listed[7]? = some true)) ∧ (listed[9]? = some true → (a'.eval (.tmp 19) = .pointer (some ⟨bb, oo + 2, none⟩)) ∧ (listed[7]? = some true) ∧ (listed[8]? = some true)) ∧ (listed[10]? = some true → (a'.eval (.tmp 20) = .agg #[.int .i8 p2, .slice B2 m2 c2]) ∧ (listed[7]? = some true) ∧ (listed[8]? = some true) ∧ (listed[9]? = some true)) ∧ (listed[11]? = some true → (a'.eval (.tmp 21) = .agg #[.int .i8 p2, .slice Gb mb cb]) ∧ (listed[7]? = some true) ∧ (listed[8]? = some true) ∧ (listed[9]? = some true) ∧ (listed[10]? = some true) ∧ ((listed[12]? = some false → Ck.Ly (fun b => w1.heap.size ≤ b) w' (p2, f2) Gb mb cb))) ∧ (listed[12]? = some true → (a'.eval (.tmp 22) = .slice (some ⟨Y, 0, none⟩) 2 2) ∧ (listed[2]? = some true) ∧ (listed[3]? = some true) ∧ (listed[4]? = some true) ∧ (listed[5]? = some true) ∧ (listed[6]? = some true) ∧ (listed[7]? = some true) ∧ (listed[8]? = some true) ∧ (listed[9]? = some true) ∧ (listed[10]? = some true) ∧ (listed[11]? = some true) ∧ (Ck.Ly (fun b => w1.heap.size ≤ b) w' (Ck.mk2 k (p1, f1) (p2, f2)) (some ⟨Y, 0, none⟩) 2 2)) ∧ (listed[13]? = some true → (a'.eval (.tmp 23) = .agg #[.int .i8 k, .slice (some ⟨Y, 0, none⟩) 2 2]) ∧ (listed[0]? = some true) ∧ (listed[1]? = some true) ∧ (listed[2]? = some true) ∧ (listed[3]? = some true) ∧ (listed[4]? = some true) ∧ (listed[5]? = some true) ∧ (listed[6]? = some true) ∧ (listed[7]? = some true) ∧ (listed[8]? = some true) ∧ (listed[9]? = some true) ∧ (listed[10]? = some true) ∧ (listed[11]? = some true) ∧ (listed[12]? = some true)) ∧ (listed[14]? = some true → (listed[0]? = some true) ∧ (listed[1]? = some true) ∧ (listed[2]? = some true) ∧ (listed[3]? = some true) ∧ (listed[4]? = some true) ∧ (listed[5]? = some true) ∧ (listed[6]? = some true) ∧ (listed[7]? = some true) ∧ (listed[8]? = some true) ∧ (listed[9]? = some true) ∧ (listed[10]? = some true) ∧ (listed[11]? = some true) ∧ (listed[12]? = some true) ∧ (listed[13]? = some true) ∧ (w'.heap[w.heap.size + 1]? = some (.cells #[.int .i8 k, .slice (some ⟨Y, 0, none⟩) 2 2] 25 (0, 0))) ∧ (Below w.heap.size w w')) ∧ (listed[14]? = some false → Below w1.heap.size w1 w')) (fun _ _ _ h => h.1) ?_ ?_ ?_
    · have hz := HZ.out
      refine ⟨rfl, rfl, ⟨rfl, rfl⟩, none, 0, 0, none, 0, 0, 0, FH, FH, FH, FH, FH, FH, FH, FH, FH, FH, FH, FH, FH, FH, FH, (fun _ => (Below.refl _ _).drew)⟩
    · rintro listed a' w' i o ⟨hdf, hsz, hx, Ga, ma, ca, Gb, mb, cb, Y, y0, y1, y2, y3, y4, y5, y6, y7, y8, y9, y10, y11, y12, y13, y14, hbw⟩ hz hsz0 ho hi hp
      have hi13 : i < 15 := by
        rcases Nat.lt_or_ge i 15 with q | q
        · exact q
        · rw [Array.getElem?_eq_none (by simpa using q)] at ho; cases ho
      rcases (by omega : i = 0 ∨ i = 1 ∨ i = 2 ∨ i = 3 ∨ i = 4 ∨ i = 5 ∨ i = 6 ∨ i = 7 ∨ i = 8 ∨ i = 9 ∨ i = 10 ∨ i = 11 ∨ i = 12 ∨ i = 13 ∨ i = 14) with rfl | rfl | rfl | rfl | rfl | rfl | rfl | rfl | rfl | rfl | rfl | rfl | rfl | rfl | rfl
      · obtain rfl := SI ho
        exact V_ ho 10 ⟨pd hdf, ps hsz, KX hx, Ga, ma, ca, Gb, mb, cb, Y, (fun _ => pS hsz), KN y1, K1 y2, K1 y3, K1 y4, K1 y5, (kF y6 (fun q => ⟨pn q.1, set_keep q.2.1, set_keep q.2.2.1, set_keep q.2.2.2.1, set_keep q.2.2.2.2.1, (kU q.2.2.2.2.2 (fun q => q))⟩)), K1 y7, K1 y8, K1 y9, K1 y10, (kF y11 (fun q => ⟨pn q.1, set_keep q.2.1, set_keep q.2.2.1, set_keep q.2.2.2.1, set_keep q.2.2.2.2.1, (kU q.2.2.2.2.2 (fun q => q))⟩)), K1 y12, KN y13, KN y14, (kU hbw id)⟩
      · obtain rfl := SI ho
        have v0 := hpv hp 0 (by simp)
        have ww0 := (y0 v0)
        have hbu := hbw
        have hbw := hbw (nf (by rw [hz]; decide) (fun q => (y14 q).2.1) hi)
        obtain ⟨e0, e1, e2, e3, e4, e5⟩ := HK.out w' hbw
        exact V_ ho 11 ⟨pd hdf, ps hsz, KX hx, Ga, ma, ca, Gb, mb, cb, Y, K1 y0, (fun _ => ⟨pS hsz, (set_keep v0)⟩), K1 y2, K1 y3, K1 y4, K1 y5, (kF y6 (fun q => ⟨pn q.1, set_keep q.2.1, set_keep q.2.2.1, set_keep q.2.2.2.1, set_keep q.2.2.2.2.1, (kU q.2.2.2.2.2 (fun q => q))⟩)), K1 y7, K1 y8, K1 y9, K1 y10, (kF y11 (fun q => ⟨pn q.1, set_keep q.2.1, set_keep q.2.2.1, set_keep q.2.2.2.1, set_keep q.2.2.2.2.1, (kU q.2.2.2.2.2 (fun q => q))⟩)), K1 y12, KN y13, KN y14, (kU hbu id)⟩
      · obtain rfl := SI ho
        exact V_ ho 12 ⟨pd hdf, ps hsz, KX hx, Ga, ma, ca, Gb, mb, cb, Y, K1 y0, K1 y1, (fun _ => pS hsz), KN y3, KN y4, KN y5, KN y6, K1 y7, K1 y8, K1 y9, K1 y10, (kF y11 (fun q => ⟨pn q.1, set_keep q.2.1, set_keep q.2.2.1, set_keep q.2.2.2.1, set_keep q.2.2.2.2.1, (kU q.2.2.2.2.2 (fun q => q))⟩)), KN y12, KN y13, KN y14, (kU hbw id)⟩
      · obtain rfl := SI ho
        have v2 := hpv hp 2 (by simp)
        have ww2 := (y2 v2)
        have hbu := hbw
        have hbw := hbw (nf (by rw [hz]; decide) (fun q => (y14 q).2.2.2.1) hi)
        obtain ⟨e0, e1, e2, e3, e4, e5⟩ := HK.out w' hbw
        exact V_ ho 13 ⟨pd hdf, ps hsz, KX hx, Ga, ma, ca, Gb, mb, cb, Y, K1 y0, K1 y1, K1 y2, (fun _ => ⟨pS hsz, (set_keep v2)⟩), KN y4, KN y5, KN y6, K1 y7, K1 y8, K1 y9, K1 y10, (kF y11 (fun q => ⟨pn q.1, set_keep q.2.1, set_keep q.2.2.1, set_keep q.2.2.2.1, set_keep q.2.2.2.2.1, (kU q.2.2.2.2.2 (fun q => q))⟩)), KN y12, KN y13, KN y14, (kU hbu id)⟩
      · obtain rfl := SI ho
        have v3 := hpv hp 3 (by simp)
        have ww3 := (y3 v3).1
        exact V_ ho 14 ⟨pd hdf, ps hsz, KX hx, Ga, ma, ca, Gb, mb, cb, Y, K1 y0, K1 y1, K1 y2, K1 y3, (fun _ => ⟨pS hsz, (set_keep ((y3 v3).2)), (set_keep v3)⟩), KN y5, KN y6, K1 y7, K1 y8, K1 y9, K1 y10, (kF y11 (fun q => ⟨pn q.1, set_keep q.2.1, set_keep q.2.2.1, set_keep q.2.2.2.1, set_keep q.2.2.2.2.1, (kU q.2.2.2.2.2 (fun q => q))⟩)), KN y12, KN y13, KN y14, (kU hbw id)⟩
      · obtain rfl := SI ho
        have v4 := hpv hp 4 (by simp)
        have ww4 := (y4 v4).1
        have hbu := hbw
        have hbw := hbw (nf (by rw [hz]; decide) (fun q => (y14 q).2.2.2.2.2.1) hi)
        obtain ⟨e0, e1, e2, e3, e4, e5⟩ := HK.out w' hbw
        exact V_ ho 15 ⟨pd hdf, ps hsz, KX hx, Ga, ma, ca, Gb, mb, cb, Y, K1 y0, K1 y1, K1 y2, K1 y3, K1 y4, (fun _ => ⟨pS hsz, (set_keep ((y4 v4).2.1)), (set_keep ((y4 v4).2.2)), (set_keep v4)⟩), KN y6, K1 y7, K1 y8, K1 y9, K1 y10, (kF y11 (fun q => ⟨pn q.1, set_keep q.2.1, set_keep q.2.2.1, set_keep q.2.2.2.1, set_keep q.2.2.2.2.1, (kU q.2.2.2.2.2 (fun q => q))⟩)), KN y12, KN y13, KN y14, (kU hbu id)⟩
      · obtain rfl := SI ho
        have v5 := hpv hp 5 (by simp)
        have ww5 := (y5 v5).1
        have hbw := hbw (nf (by rw [hz]; decide) (fun q => (y14 q).2.2.2.2.2.2.1) hi)
        refine C_ ho 16 (CC1.out w' hbw) fun e u hg => ?_
        · obtain ⟨Ga', ma', ca', rfl, hl, hb⟩ := hg
          refine ⟨.agg #[.int .i8 p1, .slice Ga' ma' ca'], rfl, ?_⟩
          have hbs := hbw.size
          have hzz := HZ.out
          have hbs2 := hb.size
          exact ⟨pd hdf, ps hsz, KX hx, Ga', ma', ca', Gb, mb, cb, Y, K1 y0, K1 y1, K1 y2, K1 y3, K1 y4, K1 y5, (fun _ => ⟨pS hsz, (set_keep ((y5 v5).2.1)), (set_keep ((y5 v5).2.2.1)), (set_keep ((y5 v5).2.2.2)), (set_keep v5), (fun _ => Ck.Ly.weak (a := (p1, f1)) hl (fun b _ hq => Nat.le_trans hbw.size hq))⟩), K1 y7, K1 y8, K1 y9, K1 y10, (kF y11 (fun q => ⟨pn q.1, set_keep q.2.1, set_keep q.2.2.1, set_keep q.2.2.2.1, set_keep q.2.2.2.2.1, (kU q.2.2.2.2.2 (fun q => (Ck.Ly.later q hb)))⟩)), KN y12, KN y13, KN y14, (fun _ => hbw.trans (hb.mono hbw.size))⟩
      · obtain rfl := SI ho
        exact V_ ho 17 ⟨pd hdf, ps hsz, KX hx, Ga, ma, ca, Gb, mb, cb, Y, K1 y0, K1 y1, K1 y2, K1 y3, K1 y4, K1 y5, (kF y6 (fun q => ⟨pn q.1, set_keep q.2.1, set_keep q.2.2.1, set_keep q.2.2.2.1, set_keep q.2.2.2.2.1, (kU q.2.2.2.2.2 (fun q => q))⟩)), (fun _ => pS hsz), KN y8, KN y9, KN y10, KN y11, KN y12, KN y13, KN y14, (kU hbw id)⟩
      · obtain rfl := SI ho
        have v7 := hpv hp 7 (by simp)
        have ww7 := (y7 v7)
        have hbu := hbw
        have hbw := hbw (nf (by rw [hz]; decide) (fun q => (y14 q).2.2.2.2.2.2.2.2.1) hi)
        obtain ⟨e0, e1, e2, e3, e4, e5⟩ := HK.out w' hbw
        exact V_ ho 18 ⟨pd hdf, ps hsz, KX hx, Ga, ma, ca, Gb, mb, cb, Y, K1 y0, K1 y1, K1 y2, K1 y3, K1 y4, K1 y5, (kF y6 (fun q => ⟨pn q.1, set_keep q.2.1, set_keep q.2.2.1, set_keep q.2.2.2.1, set_keep q.2.2.2.2.1, (kU q.2.2.2.2.2 (fun q => q))⟩)), K1 y7, (fun _ => ⟨pS hsz, (set_keep v7)⟩), KN y9, KN y10, KN y11, KN y12, KN y13, KN y14, (kU hbu id)⟩
      · obtain rfl := SI ho
        have v8 := hpv hp 8 (by simp)
        have ww8 := (y8 v8).1
        exact V_ ho 19 ⟨pd hdf, ps hsz, KX hx, Ga, ma, ca, Gb, mb, cb, Y, K1 y0, K1 y1, K1 y2, K1 y3, K1 y4, K1 y5, (kF y6 (fun q => ⟨pn q.1, set_keep q.2.1, set_keep q.2.2.1, set_keep q.2.2.2.1, set_keep q.2.2.2.2.1, (kU q.2.2.2.2.2 (fun q => q))⟩)), K1 y7, K1 y8, (fun _ => ⟨pS hsz, (set_keep ((y8 v8).2)), (set_keep v8)⟩), KN y10, KN y11, KN y12, KN y13, KN y14, (kU hbw id)⟩
      · obtain rfl := SI ho
        have v9 := hpv hp 9 (by simp)
        have ww9 := (y9 v9).1
        have hbu := hbw
        have hbw := hbw (nf (by rw [hz]; decide) (fun q => (y14 q).2.2.2.2.2.2.2.2.2.2.1) hi)
        obtain ⟨e0, e1, e2, e3, e4, e5⟩ := HK.out w' hbw
        exact V_ ho 20 ⟨pd hdf, ps hsz, KX hx, Ga, ma, ca, Gb, mb, cb, Y, K1 y0, K1 y1, K1 y2, K1 y3, K1 y4, K1 y5, (kF y6 (fun q => ⟨pn q.1, set_keep q.2.1, set_keep q.2.2.1, set_keep q.2.2.2.1, set_keep q.2.2.2.2.1, (kU q.2.2.2.2.2 (fun q => q))⟩)), K1 y7, K1 y8, K1 y9, (fun _ => ⟨pS hsz, (set_keep ((y9 v9).2.1)), (set_keep ((y9 v9).2.2)), (set_keep v9)⟩), KN y11, KN y12, KN y13, KN y14, (kU hbu id)⟩
      · obtain rfl := SI ho
        have v10 := hpv hp 10 (by simp)
        have ww10 := (y10 v10).1
        have hbw := hbw (nf (by rw [hz]; decide) (fun q => (y14 q).2.2.2.2.2.2.2.2.2.2.2.1) hi)
        refine C_ ho 21 (CC2.out w' hbw) fun e u hg => ?_
        · obtain ⟨Gb', mb', cb', rfl, hl, hb⟩ := hg
          refine ⟨.agg #[.int .i8 p2, .slice Gb' mb' cb'], rfl, ?_⟩
          have hbs := hbw.size
          have hzz := HZ.out
          have hbs2 := hb.size
          exact ⟨pd hdf, ps hsz, KX hx, Ga, ma, ca, Gb', mb', cb', Y, K1 y0, K1 y1, K1 y2, K1 y3, K1 y4, K1 y5, (kF y6 (fun q => ⟨pn q.1, set_keep q.2.1, set_keep q.2.2.1, set_keep q.2.2.2.1, set_keep q.2.2.2.2.1, (kU q.2.2.2.2.2 (fun q => (Ck.Ly.later q hb)))⟩)), K1 y7, K1 y8, K1 y9, K1 y10, (fun _ => ⟨pS hsz, (set_keep ((y10 v10).2.1)), (set_keep ((y10 v10).2.2.1)), (set_keep ((y10 v10).2.2.2)), (set_keep v10), (fun _ => Ck.Ly.weak (a := (p2, f2)) hl (fun b _ hq => Nat.le_trans hbw.size hq))⟩), KN y12, KN y13, KN y14, (fun _ => hbw.trans (hb.mono hbw.size))⟩
      · obtain rfl := SI ho
        refine wpOp_at ho rfl (wp_value2 22 rfl (v := .slice (some ⟨w'.heap.size, 0, none⟩) 2 2) (w2 := w'.alloc (.cells #[.int .i8 p1, .slice Ga ma ca, .int .i8 p2, .slice Gb mb cb] 25)) ?_ ?_)
        · have v6 := hpv hp 6 (by simp)
          have ww6 := (y6 v6).1
          have v11 := hpv hp 11 (by simp)
          have ww11 := (y11 v11).1
          exact EV
        · have v6 := hpv hp 6 (by simp)
          have v11 := hpv hp 11 (by simp)
          have hbw := hbw (nf (by rw [hz]; decide) (fun q => (y14 q).2.2.2.2.2.2.2.2.2.2.2.2.1) hi)
          have hbs := hbw.size
          have hzz := HZ.out
          have hsa : (w'.alloc (.cells #[.int .i8 p1, .slice Ga ma ca, .int .i8 p2, .slice Gb mb cb] 25)).heap.size = w'.heap.size + 1 := by simp
          have hba : Below w'.heap.size w' (w'.alloc (.cells #[.int .i8 p1, .slice Ga ma ca, .int .i8 p2, .slice Gb mb cb] 25)) := (Below.refl _ _).alloc (Nat.le_refl _) _
          have hnew := heap_new w' (.cells #[.int .i8 p1, .slice Ga ma ca, .int .i8 p2, .slice Gb mb cb] 25)
          exact ⟨pd hdf, ps hsz, KX hx, Ga, ma, ca, Gb, mb, cb, w'.heap.size, K1 y0, K1 y1, K1 y2, K1 y3, K1 y4, K1 y5, (kF y6 (fun q => ⟨pn q.1, set_keep q.2.1, set_keep q.2.2.1, set_keep q.2.2.2.1, set_keep q.2.2.2.2.1, (fun qu => (set_self_false qu).elim)⟩)), K1 y7, K1 y8, K1 y9, K1 y10, (kF y11 (fun q => ⟨pn q.1, set_keep q.2.1, set_keep q.2.2.1, set_keep q.2.2.2.1, set_keep q.2.2.2.2.1, (fun qu => (set_self_false qu).elim)⟩)), (fun _ => ⟨pS hsz, (set_keep ((y6 v6).2.1)), (set_keep ((y6 v6).2.2.1)), (set_keep ((y6 v6).2.2.2.1)), (set_keep ((y6 v6).2.2.2.2.1)), (set_keep v6), (set_keep ((y11 v11).2.1)), (set_keep ((y11 v11).2.2.1)), (set_keep ((y11 v11).2.2.2.1)), (set_keep ((y11 v11).2.2.2.2.1)), (set_keep v11), Ck.Ly.two (a := (p1, f1)) (b := (p2, f2)) hnew (show w1.heap.size ≤ w'.heap.size from hbs) ((((y6 v6).2.2.2.2.2) hi).later hba) ((((y11 v11).2.2.2.2.2) hi).later hba) k HKR.out⟩), KN y13, KN y14, (fun _ => hbw.alloc hbw.size _)⟩
      · obtain rfl := SI ho
        have v1 := hpv hp 1 (by simp)
        have ww1 := (y1 v1).1
        have v12 := hpv hp 12 (by simp)
        have ww12 := (y12 v12).1
        have hbw := hbw (nf (by rw [hz]; decide) (fun q => (y14 q).2.2.2.2.2.2.2.2.2.2.2.2.2.1) hi)
        refine C_ ho 23 (ckof_any k (some ⟨Y, 0, none⟩) 2 2 w') fun e u hg => ?_
        · obtain ⟨he, hb⟩ := hg
          refine ⟨.agg #[.int .i8 k, .slice (some ⟨Y, 0, none⟩) 2 2], he, ?_⟩
          have hbs := hbw.size
          have hzz := HZ.out
          have hbs2 := hb.size
          exact ⟨pd hdf, ps hsz, KX hx, Ga, ma, ca, Gb, mb, cb, Y, K1 y0, K1 y1, K1 y2, K1 y3, K1 y4, K1 y5, (kF y6 (fun q => ⟨pn q.1, set_keep q.2.1, set_keep q.2.2.1, set_keep q.2.2.2.1, set_keep q.2.2.2.2.1, (kU q.2.2.2.2.2 (fun q => (Ck.Ly.later q hb)))⟩)), K1 y7, K1 y8, K1 y9, K1 y10, (kF y11 (fun q => ⟨pn q.1, set_keep q.2.1, set_keep q.2.2.1, set_keep q.2.2.2.1, set_keep q.2.2.2.2.1, (kU q.2.2.2.2.2 (fun q => (Ck.Ly.later q hb)))⟩)), K1 y12, (fun _ => ⟨pS hsz, (set_keep ((y1 v1).2)), (set_keep v1), (set_keep ((y12 v12).2.1)), (set_keep ((y12 v12).2.2.1)), (set_keep ((y12 v12).2.2.2.1)), (set_keep ((y12 v12).2.2.2.2.1)), (set_keep ((y12 v12).2.2.2.2.2.1)), (set_keep ((y12 v12).2.2.2.2.2.2.1)), (set_keep ((y12 v12).2.2.2.2.2.2.2.1)), (set_keep ((y12 v12).2.2.2.2.2.2.2.2.1)), (set_keep ((y12 v12).2.2.2.2.2.2.2.2.2.1)), (set_keep ((y12 v12).2.2.2.2.2.2.2.2.2.2.1)), (set_keep v12)⟩), KN y14, (fun _ => hbw.trans (hb.mono hbw.size))⟩
      · obtain rfl := SI ho
        have v13 := hpv hp 13 (by simp)
        have ww13 := (y13 v13).1
        have hbw := hbw hi
        have hbox := heap_below hbw (heap_lt H2.out) H2.out
        obtain ⟨bc0, bc1, bf0, bf1, -⟩ := own2 hbox
        refine wpOp_at ho rfl (wp_store rfl (w2 := (w'.setCell ⟨w.heap.size + 1, 0, none⟩ (.int .i8 k)).setCell ⟨w.heap.size + 1, 1, none⟩ (.slice (some ⟨Y, 0, none⟩) 2 2)) ?_ ?_)
        · exact EV
        · have hsa : ((w'.setCell ⟨w.heap.size + 1, 0, none⟩ (.int .i8 k)).setCell ⟨w.heap.size + 1, 1, none⟩ (.slice (some ⟨Y, 0, none⟩) 2 2)).heap.size = w'.heap.size := by simp
          have hbs := hbw.size
          have hzz := HZ.out
          exact ⟨hdf, hsz, hx, Ga, ma, ca, Gb, mb, cb, Y, K1 y0, K1 y1, K1 y2, K1 y3, K1 y4, K1 y5, (kF y6 (fun q => ⟨q.1, set_keep q.2.1, set_keep q.2.2.1, set_keep q.2.2.2.1, set_keep q.2.2.2.2.1, (kT ((y13 v13).2.2.2.2.2.2.2.2.2.2.2.2.2))⟩)), K1 y7, K1 y8, K1 y9, K1 y10, (kF y11 (fun q => ⟨q.1, set_keep q.2.1, set_keep q.2.2.1, set_keep q.2.2.2.1, set_keep q.2.2.2.2.1, (kT ((y13 v13).2.2.2.2.2.2.2.2.2.2.2.2.2))⟩)), K1 y12, K1 y13, (fun _ => ⟨(set_keep ((y13 v13).2.1)), (set_keep ((y13 v13).2.2.1)), (set_keep ((y13 v13).2.2.2.1)), (set_keep ((y13 v13).2.2.2.2.1)), (set_keep ((y13 v13).2.2.2.2.2.1)), (set_keep ((y13 v13).2.2.2.2.2.2.1)), (set_keep ((y13 v13).2.2.2.2.2.2.2.1)), (set_keep ((y13 v13).2.2.2.2.2.2.2.2.1)), (set_keep ((y13 v13).2.2.2.2.2.2.2.2.2.1)), (set_keep ((y13 v13).2.2.2.2.2.2.2.2.2.2.1)), (set_keep ((y13 v13).2.2.2.2.2.2.2.2.2.2.2.1)), (set_keep ((y13 v13).2.2.2.2.2.2.2.2.2.2.2.2.1)), (set_keep ((y13 v13).2.2.2.2.2.2.2.2.2.2.2.2.2)), (set_keep v13), set_two hbox _ _, below_set2 (hfrom.out w' hbw) (by omega) _ _⟩), (fun qu => (set_self_false qu).elim)⟩
    · rintro listed u w' t ht hu ⟨-, -, -, Ga, ma, ca, Gb, mb, cb, Y, y0, y1, y2, y3, y4, y5, y6, y7, y8, y9, y10, y11, y12, y13, y14, hbw⟩ hall
      have v12 := hall 12 (by decide)
      have v14 := hall 14 (by decide)
      have HBX := Lib.hid ((y14 v14).2.2.2.2.2.2.2.2.2.2.2.2.2.2.2)
      have hl := ((y12 v12).2.2.2.2.2.2.2.2.2.2.2)
      have hx := ((y14 v14).2.2.2.2.2.2.2.2.2.2.2.2.2.2.1)
      clear y0 y1 y2 y3 y4 y5 y6 y7 y8 y9 y10 y11 y12 y13 y14 v12 v14 hall hu
      clear hbw
      simp only [over, List.setIfInBounds_toArray, List.set_cons_succ, List.set_cons_zero] at ht
      subst ht
      obtain ⟨k0, k1', -, -, -⟩ := own2 hx
      have hz := HZ.out
      go_wp2_with fail
      refine ⟨rfl, .agg #[.int .i8 k, .slice (some ⟨Y, 0, none⟩) 2 2], by simp [results, Tryz.results57, go_sem, k0, k1'], ?_⟩
      exact ⟨some ⟨Y, 0, none⟩, 2, 2, rfl, Ty.Is.anyL (hl.weak (fun b _ hq => by have h1 : w1.heap.size ≤ b := hq; show w.heap.size ≤ b; omega)), HBX.out⟩

end Go.Proofs.YtekjhcfjpedbkaaGreatDoor
