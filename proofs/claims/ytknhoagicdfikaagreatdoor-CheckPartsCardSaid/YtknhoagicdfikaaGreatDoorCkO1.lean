/-
  Layer 9: over, what is told, a pair, an operator.
-/
import Derived.Test.YtknhoagicdfikaaGreatDoorM20
namespace Go.Proofs.YtknhoagicdfikaaGreatDoor
open Go.RowKit
set_option maxHeartbeats 1500000 in
set_option maxRecDepth 100000 in
theorem ckover_16 (rv : Cg.Rv) (Q : Nat → Prop) (h : Hd) (p : Pl) (a : Ck.T2) (Y n cap : Nat) (w : World) (hk : h.kind = 16) (hn : n = 1) (hR : Ck.Row Q w [a] Y) (hS : Shapes w) (hT : Ck.Ly Q w (Ck.TT h) p.TA p.tn p.tc) :
    Calls Tryz.prog 77 #[.agg #[.func (Fn.func rv.fr) #[] rv.cpt, .func (Fn.func rv.fa) #[] #[], .func (Fn.func rv.fm) #[] #[], .func (Fn.func rv.ft) #[] #[], rv.vg], .agg #[.int .i8 h.kind, .string h.name, .string h.arg, .int .i64 h.num, .int .i8 h.tk, .slice p.TA p.tn p.tc, .int .i8 h.uk, .slice p.UA p.un p.uc, .int .i64 h.label, .int .i64 h.pos, .slice p.A p.n p.c], .slice (some ⟨Y, 0, none⟩) n cap] w (Ck.Post Q w (Cg.over rv.D h a (0, .nil) (0, .nil))) := by
  rw [Cg.over_16 _ _ _ _ _ hk]
  obtain ⟨Ga, ma, ca, a0, a1, aL⟩ := hR.cell 0 a rfl
  obtain ⟨w1, hw1, hB3, h0, h1, h2, hz⟩ := boxes3 w (.cells #[.func (Fn.func rv.fr) #[] rv.cpt, .func (Fn.func rv.fa) #[] #[], .func (Fn.func rv.fm) #[] #[], .func (Fn.func rv.ft) #[] #[], rv.vg] 47) (.cells #[.int .i8 h.kind, .string h.name, .string h.arg, .int .i64 h.num, .int .i8 h.tk, .slice p.TA p.tn p.tc, .int .i8 h.uk, .slice p.UA p.un p.uc, .int .i64 h.label, .int .i64 h.pos, .slice p.A p.n p.c] 28) (.cells #[.int .i8 0, .slice none 0 0] 25)
  have HW1 := Lib.hid hw1
  have HB3 := Lib.hid hB3
  have H0 := Lib.hid h0
  have H1 := Lib.hid h1
  have H2 := Lib.hid h2
  have HZ := Lib.hid hz
  have HAL : Hid (Ck.Ly (Ck.Cut Q w.heap.size (w.heap.size + 3)) w1 a Ga ma ca) := Lib.hid ((aL.weak (fun b hl hq => .inl ⟨hq, hl⟩)).later hB3)
  have HS := Lib.hid (hS.below hB3)
  have hfrom := Lib.hid (fun (W : World) (hb : Below w1.heap.size w1 W) => hB3.trans (hb.mono hB3.size))
  have HA := Lib.hid (And.intro (keep_cell a0 hB3) (keep_cell a1 hB3))
  have HK := Lib.hid (fun (W : World) (hb : Below w1.heap.size w1 W) => (show W.cell? ⟨w.heap.size, 0, none⟩ = some (.func (Fn.func rv.fr) #[] rv.cpt) ∧ W.cell? ⟨w.heap.size, 1, none⟩ = some (.func (Fn.func rv.fa) #[] #[]) ∧ W.cell? ⟨w.heap.size, 2, none⟩ = some (.func (Fn.func rv.fm) #[] #[]) ∧ W.cell? ⟨w.heap.size, 3, none⟩ = some (.func (Fn.func rv.ft) #[] #[]) ∧ W.cell? ⟨w.heap.size, 4, none⟩ = some rv.vg ∧ W.cell? ⟨w.heap.size + 1, 0, none⟩ = some (.int .i8 h.kind) ∧ W.cell? ⟨w.heap.size + 1, 1, none⟩ = some (.string h.name) ∧ W.cell? ⟨w.heap.size + 1, 2, none⟩ = some (.string h.arg) ∧ W.cell? ⟨w.heap.size + 1, 3, none⟩ = some (.int .i64 h.num) ∧ W.cell? ⟨w.heap.size + 1, 4, none⟩ = some (.int .i8 h.tk) ∧ W.cell? ⟨w.heap.size + 1, 5, none⟩ = some (.slice p.TA p.tn p.tc) ∧ W.cell? ⟨w.heap.size + 1, 6, none⟩ = some (.int .i8 h.uk) ∧ W.cell? ⟨w.heap.size + 1, 7, none⟩ = some (.slice p.UA p.un p.uc) ∧ W.cell? ⟨w.heap.size + 1, 8, none⟩ = some (.int .i64 h.label) ∧ W.cell? ⟨w.heap.size + 1, 9, none⟩ = some (.int .i64 h.pos) ∧ W.cell? ⟨w.heap.size + 1, 10, none⟩ = some (.slice p.A p.n p.c) ∧ W.cell? ⟨Y, 0, none⟩ = some (.int .i8 a.1) ∧ W.cell? ⟨Y, 1, none⟩ = some (.slice Ga ma ca) from by
    obtain ⟨r0, r1, r2, r3, r4, -⟩ := own5 (heap_below hb (heap_lt H0.out) H0.out)
    obtain ⟨q0, q1, q2, q3, q4, q5, q6, q7, q8, q9, q10, ql⟩ := own11 (heap_below hb (heap_lt H1.out) H1.out)
    exact ⟨r0, r1, r2, r3, r4, q0, q1, q2, q3, q4, q5, q6, q7, q8, q9, q10, keep_cell HA.out.1 hb, keep_cell HA.out.2 hb⟩))
  clear hR hS a0 a1 aL hB3 h0 h1 h2 hz
  subst hn
  have HKK := Lib.hid hk
  clear hk
  obtain ⟨R, hR⟩ : ∃ R, R = (if rv.D.ag a (Ck.TT h) = true then .ok (Ck.TT h) else Ck.fault h 91) := ⟨_, rfl⟩
  rw [← hR]
  have HR := Lib.hid hR
  clear hR
  have HT := Lib.hid ((hT.weak (Q' := fun b => Q b ∧ b < w.heap.size) (fun b hl hq => ⟨hq, hl⟩)).later HB3.out)
  clear hT
  go_enter Tryz.func77, Tryz.ntmps77
  go_upto_region 1 with fail
  rw [← HW1.out]
  obtain ⟨r0, r1, r2, r3, r4, q0, q1, q2, q3, q4, q5, q6, q7, q8, q9, q10, y0, y1⟩ := HK.out w1 (Below.refl _ _)
  rw [HKK.out] at q0
  clear hw1
  go_upto_region 33 with fail
  clear r0 r1 r2 r3 r4 q0 q1 q2 q3 q4 q5 q6 q7 q8 q9 q10 y0 y1
  refine region_inv_end2 170 rfl [160, 161, 162, 163, 164, 165, 166, 167] (by kernel_rfl) (by kernel_rfl) (by kernel_rfl) (fun listed a' w' => a'.defers = [] ∧ a'.tmps.size = 170 ∧ (a'.eval (.tmp 2) = .slice (some ⟨Y, 0, none⟩) 1 cap ∧ a'.eval (.tmp 3) = .pointer (some ⟨w.heap.size, 0, none⟩) ∧ a'.eval (.tmp 4) = .pointer (some ⟨w.heap.size + 1, 0, none⟩) ∧ a'.eval (.tmp 6) = .pointer (some ⟨w.heap.size + 1 + 1, 0, none⟩)) ∧ (listed[0]? = some true → (a'.eval (.tmp 160) = .agg #[.func (Fn.func rv.fr) #[] rv.cpt, .func (Fn.func rv.fa) #[] #[], .func (Fn.func rv.fm) #[] #[], .func (Fn.func rv.ft) #[] #[], rv.vg])) ∧ (listed[1]? = some true → (a'.eval (.tmp 161) = .agg #[.int .i8 h.kind, .string h.name, .string h.arg, .int .i64 h.num, .int .i8 h.tk, .slice p.TA p.tn p.tc, .int .i8 h.uk, .slice p.UA p.un p.uc, .int .i64 h.label, .int .i64 h.pos, .slice p.A p.n p.c])) ∧ (listed[2]? = some true → (a'.eval (.tmp 162) = .slice (some ⟨Y, 0, none⟩) 1 cap)) ∧ (listed[3]? = some true → (a'.eval (.tmp 163) = .pointer (some ⟨Y, 0, none⟩))) ∧ (listed[4]? = some true → (a'.eval (.tmp 164) = .agg #[.int .i8 a.1, .slice Ga ma ca])) ∧ (listed[5]? = some true → (a'.eval (.tmp 165) = .pointer (some ⟨w.heap.size + 1, 4, none⟩))) ∧ (listed[6]? = some true → (a'.eval (.tmp 166) = .agg #[.int .i8 h.tk, .slice p.TA p.tn p.tc])) ∧ (listed[7]? = some true → (a'.eval (.tmp 167) = .tuple #[]) ∧ (rv.D.ag a (Ck.TT h) = true)) ∧ Below w1.heap.size w1 w') (fun _ _ _ h => h.1) ?_ ?_ ?_
  · have hz := HZ.out
    refine ⟨rfl, rfl, ⟨rfl, rfl, rfl, rfl⟩, FH, FH, FH, FH, FH, FH, FH, FH, (Below.refl _ _).drew⟩
  · rintro listed a' w' i o ⟨hdf, hsz, hx, y0, y1, y2, y3, y4, y5, y6, y7, hbw⟩ hz hsz0 ho hi hp
    have hi13 : i < 8 := by
      rcases Nat.lt_or_ge i 8 with q | q
      · exact q
      · rw [Array.getElem?_eq_none (by simpa using q)] at ho; cases ho
    rcases (by omega : i = 0 ∨ i = 1 ∨ i = 2 ∨ i = 3 ∨ i = 4 ∨ i = 5 ∨ i = 6 ∨ i = 7) with rfl | rfl | rfl | rfl | rfl | rfl | rfl | rfl
    · obtain rfl := SI ho
      obtain ⟨c0, c1, c2, c3, c4, c5, c6, c7, c8, c9, c10, c11, c12, c13, c14, c15, c16, c17⟩ := HK.out w' hbw
      exact V_ ho 160 ⟨pd hdf, ps hsz, KX hx, (fun _ => pS hsz), K1 y1, K1 y2, K1 y3, K1 y4, K1 y5, K1 y6, K1 y7, hbw⟩
    · obtain rfl := SI ho
      obtain ⟨c0, c1, c2, c3, c4, c5, c6, c7, c8, c9, c10, c11, c12, c13, c14, c15, c16, c17⟩ := HK.out w' hbw
      exact V_ ho 161 ⟨pd hdf, ps hsz, KX hx, K1 y0, (fun _ => pS hsz), K1 y2, K1 y3, K1 y4, K1 y5, K1 y6, K1 y7, hbw⟩
    · obtain rfl := SI ho
      exact V_ ho 162 ⟨pd hdf, ps hsz, KX hx, K1 y0, K1 y1, (fun _ => pS hsz), K1 y3, K1 y4, K1 y5, K1 y6, K1 y7, hbw⟩
    · obtain rfl := SI ho
      have v2 := hpv hp 2 (by simp)
      have ww2 := (y2 v2)
      exact V_ ho 163 ⟨pd hdf, ps hsz, KX hx, K1 y0, K1 y1, K1 y2, (fun _ => pS hsz), K1 y4, K1 y5, K1 y6, K1 y7, hbw⟩
    · obtain rfl := SI ho
      have v3 := hpv hp 3 (by simp)
      have ww3 := (y3 v3)
      obtain ⟨c0, c1, c2, c3, c4, c5, c6, c7, c8, c9, c10, c11, c12, c13, c14, c15, c16, c17⟩ := HK.out w' hbw
      exact V_ ho 164 ⟨pd hdf, ps hsz, KX hx, K1 y0, K1 y1, K1 y2, K1 y3, (fun _ => pS hsz), K1 y5, K1 y6, K1 y7, hbw⟩
    · obtain rfl := SI ho
      exact V_ ho 165 ⟨pd hdf, ps hsz, KX hx, K1 y0, K1 y1, K1 y2, K1 y3, K1 y4, (fun _ => pS hsz), K1 y6, K1 y7, hbw⟩
    · obtain rfl := SI ho
      have v5 := hpv hp 5 (by simp)
      have ww5 := (y5 v5)
      obtain ⟨c0, c1, c2, c3, c4, c5, c6, c7, c8, c9, c10, c11, c12, c13, c14, c15, c16, c17⟩ := HK.out w' hbw
      exact V_ ho 166 ⟨pd hdf, ps hsz, KX hx, K1 y0, K1 y1, K1 y2, K1 y3, K1 y4, K1 y5, (fun _ => pS hsz), K1 y7, hbw⟩
    · obtain rfl := SI ho
      have v0 := hpv hp 0 (by simp)
      have ww0 := (y0 v0)
      have v1 := hpv hp 1 (by simp)
      have ww1 := (y1 v1)
      have v4 := hpv hp 4 (by simp)
      have ww4 := (y4 v4)
      have v6 := hpv hp 6 (by simp)
      have ww6 := (y6 v6)
      refine M_ ho 167 (ckwant_any rv h p a.1 a.2 Ga ma ca h.tk h.tkids p.TA p.tn p.tc w' (HAL.out.later hbw).is (HT.out.later hbw).is (HS.out.below hbw)) fun e u hg => ?_
      · rcases hg with ⟨hq, hg⟩ | ⟨hq, hg⟩
        · have HP : Ck.Post Q w R e u := by rw [HR.out, if_neg (ne_of_false (show rv.D.ag a (Ck.TT h) = false from hq))]; exact Ck.Gave.from hg (hfrom.out w' hbw)
          obtain ⟨g, rfl, hg2⟩ := hg
          exact .inr ⟨_, rfl, hdf, HP⟩
        · obtain ⟨he, hb⟩ := hg
          refine .inl ?_
          refine ⟨.tuple #[], he, ?_⟩
          have hbs := hbw.size
          have hzz := HZ.out
          have hbs2 := hb.size
          exact ⟨pd hdf, ps hsz, KX hx, K1 y0, K1 y1, K1 y2, K1 y3, K1 y4, K1 y5, K1 y6, (fun _ => ⟨pS hsz, hq⟩), hbw.trans (hb.mono hbw.size)⟩
  · rintro listed u w' t ht hu ⟨-, -, -, y0, y1, y2, y3, y4, y5, y6, y7, hbw⟩ hall
    have v7 := hall 7 (by decide)
    have HBW := Lib.hid hbw
    have P1 := ((y7 v7).2)
    clear y0 y1 y2 y3 y4 y5 y6 y7 v7 hall hu
    clear hbw
    simp only [over, List.setIfInBounds_toArray, List.set_cons_succ, List.set_cons_zero] at ht
    subst ht
    obtain ⟨r0, r1, r2, r3, r4, q0, q1, q2, q3, q4, q5, q6, q7, q8, q9, q10, y0, y1⟩ := HK.out w' HBW.out
    have z2 := heap_below HBW.out (heap_lt H2.out) H2.out
    obtain ⟨x0, x1, f0, f1, xl⟩ := own2 z2
    go_wp2_with fail
    have z3 := set_two z2 (.int .i8 h.tk) (.slice p.TA p.tn p.tc)
    obtain ⟨k0, k1, -, -, -⟩ := own2 z3
    refine ⟨rfl, .agg #[.int .i8 h.tk, .slice p.TA p.tn p.tc], by simp [results, Tryz.results77, go_sem, k0, k1], ?_⟩
    rw [HR.out, if_pos P1]
    exact ⟨p.TA, p.tn, p.tc, rfl, ((HT.out.later HBW.out).set2 (fun b hq => by have := hq.2; omega) _ _).weak (fun b _ hq => .inl hq), below_set2 (hfrom.out _ HBW.out) (by omega) _ _⟩
set_option maxHeartbeats 4000000 in
set_option maxRecDepth 100000 in
theorem ckover_9 (rv : Cg.Rv) (Q : Nat → Prop) (h : Hd) (p : Pl) (a b : Ck.T2) (Y n cap : Nat) (w : World) (hk : h.kind = 9) (hn : n = 2) (hR : Ck.Row Q w [a, b] Y) (hS : Shapes w) (hcap : 2 ≤ cap ∧ cap ≤ maxLen) :
    Calls Tryz.prog 77 #[.agg #[.func (Fn.func rv.fr) #[] rv.cpt, .func (Fn.func rv.fa) #[] #[], .func (Fn.func rv.fm) #[] #[], .func (Fn.func rv.ft) #[] #[], rv.vg], .agg #[.int .i8 h.kind, .string h.name, .string h.arg, .int .i64 h.num, .int .i8 h.tk, .slice p.TA p.tn p.tc, .int .i8 h.uk, .slice p.UA p.un p.uc, .int .i64 h.label, .int .i64 h.pos, .slice p.A p.n p.c], .slice (some ⟨Y, 0, none⟩) n cap] w (Ck.Post Q w (Cg.over rv.D h a b (0, .nil))) := by
  rw [Cg.over_9 _ _ _ _ _ hk]
  obtain ⟨Ga, ma, ca, a0, a1, aL⟩ := hR.cell 0 a rfl
  obtain ⟨Gb, mb, cb, b0, b1, bL⟩ := hR.cell 1 b rfl
  obtain ⟨w1, hw1, hB3, h0, h1, h2, hz⟩ := boxes3 w (.cells #[.func (Fn.func rv.fr) #[] rv.cpt, .func (Fn.func rv.fa) #[] #[], .func (Fn.func rv.fm) #[] #[], .func (Fn.func rv.ft) #[] #[], rv.vg] 47) (.cells #[.int .i8 h.kind, .string h.name, .string h.arg, .int .i64 h.num, .int .i8 h.tk, .slice p.TA p.tn p.tc, .int .i8 h.uk, .slice p.UA p.un p.uc, .int .i64 h.label, .int .i64 h.pos, .slice p.A p.n p.c] 28) (.cells #[.int .i8 0, .slice none 0 0] 25)
  have HW1 := Lib.hid hw1
  have HB3 := Lib.hid hB3
  have H0 := Lib.hid h0
  have H1 := Lib.hid h1
  have H2 := Lib.hid h2
  have HZ := Lib.hid hz
  have HAL : Hid (Ck.Ly (Ck.Cut Q w.heap.size (w.heap.size + 3)) w1 a Ga ma ca) := Lib.hid ((aL.weak (fun b hl hq => .inl ⟨hq, hl⟩)).later hB3)
  have HBL : Hid (Ck.Ly (Ck.Cut Q w.heap.size (w.heap.size + 3)) w1 b Gb mb cb) := Lib.hid ((bL.weak (fun b hl hq => .inl ⟨hq, hl⟩)).later hB3)
  have HS := Lib.hid (hS.below hB3)
  have hfrom := Lib.hid (fun (W : World) (hb : Below w1.heap.size w1 W) => hB3.trans (hb.mono hB3.size))
  have HA := Lib.hid (And.intro (keep_cell a0 hB3) (keep_cell a1 hB3))
  have HB := Lib.hid (And.intro (keep_cell b0 hB3) (keep_cell b1 hB3))
  have HK := Lib.hid (fun (W : World) (hb : Below w1.heap.size w1 W) => (show W.cell? ⟨w.heap.size, 0, none⟩ = some (.func (Fn.func rv.fr) #[] rv.cpt) ∧ W.cell? ⟨w.heap.size, 1, none⟩ = some (.func (Fn.func rv.fa) #[] #[]) ∧ W.cell? ⟨w.heap.size, 2, none⟩ = some (.func (Fn.func rv.fm) #[] #[]) ∧ W.cell? ⟨w.heap.size, 3, none⟩ = some (.func (Fn.func rv.ft) #[] #[]) ∧ W.cell? ⟨w.heap.size, 4, none⟩ = some rv.vg ∧ W.cell? ⟨w.heap.size + 1, 0, none⟩ = some (.int .i8 h.kind) ∧ W.cell? ⟨w.heap.size + 1, 1, none⟩ = some (.string h.name) ∧ W.cell? ⟨w.heap.size + 1, 2, none⟩ = some (.string h.arg) ∧ W.cell? ⟨w.heap.size + 1, 3, none⟩ = some (.int .i64 h.num) ∧ W.cell? ⟨w.heap.size + 1, 4, none⟩ = some (.int .i8 h.tk) ∧ W.cell? ⟨w.heap.size + 1, 5, none⟩ = some (.slice p.TA p.tn p.tc) ∧ W.cell? ⟨w.heap.size + 1, 6, none⟩ = some (.int .i8 h.uk) ∧ W.cell? ⟨w.heap.size + 1, 7, none⟩ = some (.slice p.UA p.un p.uc) ∧ W.cell? ⟨w.heap.size + 1, 8, none⟩ = some (.int .i64 h.label) ∧ W.cell? ⟨w.heap.size + 1, 9, none⟩ = some (.int .i64 h.pos) ∧ W.cell? ⟨w.heap.size + 1, 10, none⟩ = some (.slice p.A p.n p.c) ∧ W.cell? ⟨Y, 0, none⟩ = some (.int .i8 a.1) ∧ W.cell? ⟨Y, 1, none⟩ = some (.slice Ga ma ca) ∧ W.cell? ⟨Y, 2, none⟩ = some (.int .i8 b.1) ∧ W.cell? ⟨Y, 3, none⟩ = some (.slice Gb mb cb) from by
    obtain ⟨r0, r1, r2, r3, r4, -⟩ := own5 (heap_below hb (heap_lt H0.out) H0.out)
    obtain ⟨q0, q1, q2, q3, q4, q5, q6, q7, q8, q9, q10, ql⟩ := own11 (heap_below hb (heap_lt H1.out) H1.out)
    exact ⟨r0, r1, r2, r3, r4, q0, q1, q2, q3, q4, q5, q6, q7, q8, q9, q10, keep_cell HA.out.1 hb, keep_cell HA.out.2 hb, keep_cell HB.out.1 hb, keep_cell HB.out.2 hb⟩))
  clear hS a0 a1 aL b0 b1 bL hB3 h0 h1 h2 hz
  subst hn
  have HKK := Lib.hid hk
  clear hk
  have HRW := Lib.hid ((hR.weak (Q' := fun b => Q b ∧ b < w.heap.size) (fun b hl hq => ⟨hq, hl⟩)).later HB3.out)
  have HC := Lib.hid hcap
  clear hR hcap
  go_enter Tryz.func77, Tryz.ntmps77
  go_upto_region 1 with fail
  rw [← HW1.out]
  obtain ⟨r0, r1, r2, r3, r4, q0, q1, q2, q3, q4, q5, q6, q7, q8, q9, q10, y0, y1, y2, y3⟩ := HK.out w1 (Below.refl _ _)
  rw [HKK.out] at q0
  clear hw1
  have CO := Lib.hid (ckof_any 4 (some ⟨Y, 0, none⟩) 2 cap w1)
  go_wp2_with fail
  refine CO.out.mono ?_
  rintro e w5 ⟨rfl, hb5⟩
  have HB5 := Lib.hid hb5
  have z2 := heap_below hb5 (heap_lt H2.out) H2.out
  obtain ⟨x0, x1, f0, f1, xl⟩ := own2 z2
  clear hb5
  go_wp2_with fail
  have z3 := set_two z2 (.int .i8 4) (.slice (some ⟨Y, 0, none⟩) 2 cap)
  obtain ⟨k0, k1, -, -, -⟩ := own2 z3
  exact ⟨rfl, .agg #[.int .i8 4, .slice (some ⟨Y, 0, none⟩) 2 cap], by simp [results, Tryz.results77, go_sem, k0, k1], some ⟨Y, 0, none⟩, 2, cap, rfl, (((HRW.out.two 4 (by decide) cap HC.out.1 HC.out.2).later HB5.out).set2 (fun b hq => by have := hq.2; omega) _ _).weak (fun b _ hq => .inl hq), below_set2 (hfrom.out _ HB5.out) (by omega) _ _⟩
set_option maxHeartbeats 1500000 in
set_option maxRecDepth 100000 in
theorem ckover_15 (rv : Cg.Rv) (Q : Nat → Prop) (h : Hd) (p : Pl) (a b : Ck.T2) (Y n cap : Nat) (w : World) (hk : h.kind = 15) (hn : n = 2) (hR : Ck.Row Q w [a, b] Y) (hS : Shapes w) :
    Calls Tryz.prog 77 #[.agg #[.func (Fn.func rv.fr) #[] rv.cpt, .func (Fn.func rv.fa) #[] #[], .func (Fn.func rv.fm) #[] #[], .func (Fn.func rv.ft) #[] #[], rv.vg], .agg #[.int .i8 h.kind, .string h.name, .string h.arg, .int .i64 h.num, .int .i8 h.tk, .slice p.TA p.tn p.tc, .int .i8 h.uk, .slice p.UA p.un p.uc, .int .i64 h.label, .int .i64 h.pos, .slice p.A p.n p.c], .slice (some ⟨Y, 0, none⟩) n cap] w (Ck.Post Q w (Cg.over rv.D h a b (0, .nil))) := by
  rw [Cg.over_15 _ _ _ _ _ hk]
  obtain ⟨Ga, ma, ca, a0, a1, aL⟩ := hR.cell 0 a rfl
  obtain ⟨Gb, mb, cb, b0, b1, bL⟩ := hR.cell 1 b rfl
  obtain ⟨w1, hw1, hB3, h0, h1, h2, hz⟩ := boxes3 w (.cells #[.func (Fn.func rv.fr) #[] rv.cpt, .func (Fn.func rv.fa) #[] #[], .func (Fn.func rv.fm) #[] #[], .func (Fn.func rv.ft) #[] #[], rv.vg] 47) (.cells #[.int .i8 h.kind, .string h.name, .string h.arg, .int .i64 h.num, .int .i8 h.tk, .slice p.TA p.tn p.tc, .int .i8 h.uk, .slice p.UA p.un p.uc, .int .i64 h.label, .int .i64 h.pos, .slice p.A p.n p.c] 28) (.cells #[.int .i8 0, .slice none 0 0] 25)
  have HW1 := Lib.hid hw1
  have HB3 := Lib.hid hB3
  have H0 := Lib.hid h0
  have H1 := Lib.hid h1
  have H2 := Lib.hid h2
  have HZ := Lib.hid hz
  have HAL : Hid (Ck.Ly (Ck.Cut Q w.heap.size (w.heap.size + 3)) w1 a Ga ma ca) := Lib.hid ((aL.weak (fun b hl hq => .inl ⟨hq, hl⟩)).later hB3)
  have HBL : Hid (Ck.Ly (Ck.Cut Q w.heap.size (w.heap.size + 3)) w1 b Gb mb cb) := Lib.hid ((bL.weak (fun b hl hq => .inl ⟨hq, hl⟩)).later hB3)
  have HS := Lib.hid (hS.below hB3)
  have hfrom := Lib.hid (fun (W : World) (hb : Below w1.heap.size w1 W) => hB3.trans (hb.mono hB3.size))
  have HA := Lib.hid (And.intro (keep_cell a0 hB3) (keep_cell a1 hB3))
  have HB := Lib.hid (And.intro (keep_cell b0 hB3) (keep_cell b1 hB3))
  have HK := Lib.hid (fun (W : World) (hb : Below w1.heap.size w1 W) => (show W.cell? ⟨w.heap.size, 0, none⟩ = some (.func (Fn.func rv.fr) #[] rv.cpt) ∧ W.cell? ⟨w.heap.size, 1, none⟩ = some (.func (Fn.func rv.fa) #[] #[]) ∧ W.cell? ⟨w.heap.size, 2, none⟩ = some (.func (Fn.func rv.fm) #[] #[]) ∧ W.cell? ⟨w.heap.size, 3, none⟩ = some (.func (Fn.func rv.ft) #[] #[]) ∧ W.cell? ⟨w.heap.size, 4, none⟩ = some rv.vg ∧ W.cell? ⟨w.heap.size + 1, 0, none⟩ = some (.int .i8 h.kind) ∧ W.cell? ⟨w.heap.size + 1, 1, none⟩ = some (.string h.name) ∧ W.cell? ⟨w.heap.size + 1, 2, none⟩ = some (.string h.arg) ∧ W.cell? ⟨w.heap.size + 1, 3, none⟩ = some (.int .i64 h.num) ∧ W.cell? ⟨w.heap.size + 1, 4, none⟩ = some (.int .i8 h.tk) ∧ W.cell? ⟨w.heap.size + 1, 5, none⟩ = some (.slice p.TA p.tn p.tc) ∧ W.cell? ⟨w.heap.size + 1, 6, none⟩ = some (.int .i8 h.uk) ∧ W.cell? ⟨w.heap.size + 1, 7, none⟩ = some (.slice p.UA p.un p.uc) ∧ W.cell? ⟨w.heap.size + 1, 8, none⟩ = some (.int .i64 h.label) ∧ W.cell? ⟨w.heap.size + 1, 9, none⟩ = some (.int .i64 h.pos) ∧ W.cell? ⟨w.heap.size + 1, 10, none⟩ = some (.slice p.A p.n p.c) ∧ W.cell? ⟨Y, 0, none⟩ = some (.int .i8 a.1) ∧ W.cell? ⟨Y, 1, none⟩ = some (.slice Ga ma ca) ∧ W.cell? ⟨Y, 2, none⟩ = some (.int .i8 b.1) ∧ W.cell? ⟨Y, 3, none⟩ = some (.slice Gb mb cb) from by
    obtain ⟨r0, r1, r2, r3, r4, -⟩ := own5 (heap_below hb (heap_lt H0.out) H0.out)
    obtain ⟨q0, q1, q2, q3, q4, q5, q6, q7, q8, q9, q10, ql⟩ := own11 (heap_below hb (heap_lt H1.out) H1.out)
    exact ⟨r0, r1, r2, r3, r4, q0, q1, q2, q3, q4, q5, q6, q7, q8, q9, q10, keep_cell HA.out.1 hb, keep_cell HA.out.2 hb, keep_cell HB.out.1 hb, keep_cell HB.out.2 hb⟩))
  clear hR hS a0 a1 aL b0 b1 bL hB3 h0 h1 h2 hz
  subst hn
  have HKK := Lib.hid hk
  clear hk
  obtain ⟨R, hR⟩ : ∃ R, R = (if rv.D.ag a (1, .nil) = true then (if rv.D.ag b (1, .nil) = true then .ok (Ck.opAns h.name) else Ck.fault h 91) else Ck.fault h 91) := ⟨_, rfl⟩
  rw [← hR]
  have HR := Lib.hid hR
  clear hR
  go_enter Tryz.func77, Tryz.ntmps77
  go_upto_region 1 with fail
  rw [← HW1.out]
  obtain ⟨r0, r1, r2, r3, r4, q0, q1, q2, q3, q4, q5, q6, q7, q8, q9, q10, y0, y1, y2, y3⟩ := HK.out w1 (Below.refl _ _)
  rw [HKK.out] at q0
  clear hw1
  go_upto_region 26 with fail
  clear r0 r1 r2 r3 r4 q0 q1 q2 q3 q4 q5 q6 q7 q8 q9 q10 y0 y1 y2 y3
  refine region_inv_end2 170 rfl [128, 129, 130, 131, 132, 133, 134] (by kernel_rfl) (by kernel_rfl) (by kernel_rfl) (fun listed a' w' => a'.defers = [] ∧ a'.tmps.size = 170 ∧ (a'.eval (.tmp 2) = .slice (some ⟨Y, 0, none⟩) 2 cap ∧ a'.eval (.tmp 3) = .pointer (some ⟨w.heap.size, 0, none⟩) ∧ a'.eval (.tmp 4) = .pointer (some ⟨w.heap.size + 1, 0, none⟩) ∧ a'.eval (.tmp 6) = .pointer (some ⟨w.heap.size + 1 + 1, 0, none⟩)) ∧ (listed[0]? = some true → (a'.eval (.tmp 128) = .agg #[.func (Fn.func rv.fr) #[] rv.cpt, .func (Fn.func rv.fa) #[] #[], .func (Fn.func rv.fm) #[] #[], .func (Fn.func rv.ft) #[] #[], rv.vg])) ∧ (listed[1]? = some true → (a'.eval (.tmp 129) = .agg #[.int .i8 h.kind, .string h.name, .string h.arg, .int .i64 h.num, .int .i8 h.tk, .slice p.TA p.tn p.tc, .int .i8 h.uk, .slice p.UA p.un p.uc, .int .i64 h.label, .int .i64 h.pos, .slice p.A p.n p.c])) ∧ (listed[2]? = some true → (a'.eval (.tmp 130) = .slice (some ⟨Y, 0, none⟩) 2 cap)) ∧ (listed[3]? = some true → (a'.eval (.tmp 131) = .pointer (some ⟨Y, 0, none⟩))) ∧ (listed[4]? = some true → (a'.eval (.tmp 132) = .agg #[.int .i8 a.1, .slice Ga ma ca])) ∧ (listed[5]? = some true → (a'.eval (.tmp 133) = .agg #[.int .i8 1, .slice none 0 0])) ∧ (listed[6]? = some true → (a'.eval (.tmp 134) = .tuple #[]) ∧ (rv.D.ag a (1, .nil) = true)) ∧ Below w1.heap.size w1 w') (fun _ _ _ h => h.1) ?_ ?_ ?_
  · have hz := HZ.out
    refine ⟨rfl, rfl, ⟨rfl, rfl, rfl, rfl⟩, FH, FH, FH, FH, FH, FH, FH, (Below.refl _ _).drew⟩
  · rintro listed a' w' i o ⟨hdf, hsz, hx, y0, y1, y2, y3, y4, y5, y6, hbw⟩ hz hsz0 ho hi hp
    have hi13 : i < 7 := by
      rcases Nat.lt_or_ge i 7 with q | q
      · exact q
      · rw [Array.getElem?_eq_none (by simpa using q)] at ho; cases ho
    rcases (by omega : i = 0 ∨ i = 1 ∨ i = 2 ∨ i = 3 ∨ i = 4 ∨ i = 5 ∨ i = 6) with rfl | rfl | rfl | rfl | rfl | rfl | rfl
    · obtain rfl := SI ho
      obtain ⟨c0, c1, c2, c3, c4, c5, c6, c7, c8, c9, c10, c11, c12, c13, c14, c15, c16, c17, c18, c19⟩ := HK.out w' hbw
      exact V_ ho 128 ⟨pd hdf, ps hsz, KX hx, (fun _ => pS hsz), K1 y1, K1 y2, K1 y3, K1 y4, K1 y5, K1 y6, hbw⟩
    · obtain rfl := SI ho
      obtain ⟨c0, c1, c2, c3, c4, c5, c6, c7, c8, c9, c10, c11, c12, c13, c14, c15, c16, c17, c18, c19⟩ := HK.out w' hbw
      exact V_ ho 129 ⟨pd hdf, ps hsz, KX hx, K1 y0, (fun _ => pS hsz), K1 y2, K1 y3, K1 y4, K1 y5, K1 y6, hbw⟩
    · obtain rfl := SI ho
      exact V_ ho 130 ⟨pd hdf, ps hsz, KX hx, K1 y0, K1 y1, (fun _ => pS hsz), K1 y3, K1 y4, K1 y5, K1 y6, hbw⟩
    · obtain rfl := SI ho
      have v2 := hpv hp 2 (by simp)
      have ww2 := (y2 v2)
      exact V_ ho 131 ⟨pd hdf, ps hsz, KX hx, K1 y0, K1 y1, K1 y2, (fun _ => pS hsz), K1 y4, K1 y5, K1 y6, hbw⟩
    · obtain rfl := SI ho
      have v3 := hpv hp 3 (by simp)
      have ww3 := (y3 v3)
      obtain ⟨c0, c1, c2, c3, c4, c5, c6, c7, c8, c9, c10, c11, c12, c13, c14, c15, c16, c17, c18, c19⟩ := HK.out w' hbw
      exact V_ ho 132 ⟨pd hdf, ps hsz, KX hx, K1 y0, K1 y1, K1 y2, K1 y3, (fun _ => pS hsz), K1 y5, K1 y6, hbw⟩
    · obtain rfl := SI ho
      refine C_ ho 133 (ckof_any 1 none 0 0 w') fun e u hg => ?_
      · obtain ⟨he, hb⟩ := hg
        refine ⟨.agg #[.int .i8 1, .slice none 0 0], he, ?_⟩
        have hbs := hbw.size
        have hzz := HZ.out
        have hbs2 := hb.size
        exact ⟨pd hdf, ps hsz, KX hx, K1 y0, K1 y1, K1 y2, K1 y3, K1 y4, (fun _ => pS hsz), K1 y6, hbw.trans (hb.mono hbw.size)⟩
    · obtain rfl := SI ho
      have v0 := hpv hp 0 (by simp)
      have ww0 := (y0 v0)
      have v1 := hpv hp 1 (by simp)
      have ww1 := (y1 v1)
      have v4 := hpv hp 4 (by simp)
      have ww4 := (y4 v4)
      have v5 := hpv hp 5 (by simp)
      have ww5 := (y5 v5)
      refine M_ ho 134 (ckwant_any rv h p a.1 a.2 Ga ma ca 1 .nil none 0 0 w' (HAL.out.later hbw).is (leaf_is (by decide) w') (HS.out.below hbw)) fun e u hg => ?_
      · rcases hg with ⟨hq, hg⟩ | ⟨hq, hg⟩
        · have HP : Ck.Post Q w R e u := by rw [HR.out, if_neg (ne_of_false (show rv.D.ag a (1, .nil) = false from hq))]; exact Ck.Gave.from hg (hfrom.out w' hbw)
          obtain ⟨g, rfl, hg2⟩ := hg
          exact .inr ⟨_, rfl, hdf, HP⟩
        · obtain ⟨he, hb⟩ := hg
          refine .inl ?_
          refine ⟨.tuple #[], he, ?_⟩
          have hbs := hbw.size
          have hzz := HZ.out
          have hbs2 := hb.size
          exact ⟨pd hdf, ps hsz, KX hx, K1 y0, K1 y1, K1 y2, K1 y3, K1 y4, K1 y5, (fun _ => ⟨pS hsz, hq⟩), hbw.trans (hb.mono hbw.size)⟩
  · rintro listed u w' t ht hu ⟨-, -, -, y0, y1, y2, y3, y4, y5, y6, hbw⟩ hall
    have v6 := hall 6 (by decide)
    have HBW := Lib.hid hbw
    have P1 := Lib.hid ((y6 v6).2)
    clear y0 y1 y2 y3 y4 y5 y6 v6 hall hu
    clear hbw
    simp only [over, List.setIfInBounds_toArray, List.set_cons_succ, List.set_cons_zero] at ht
    subst ht
    obtain ⟨r0, r1, r2, r3, r4, q0, q1, q2, q3, q4, q5, q6, q7, q8, q9, q10, y0, y1, y2, y3⟩ := HK.out w' HBW.out
    go_upto_region 27 with fail
    clear r0 r1 r2 r3 r4 q0 q1 q2 q3 q4 q5 q6 q7 q8 q9 q10 y0 y1 y2 y3
    refine region_inv_end2 170 rfl [135, 136, 137, 138, 139, 140, 141] (by kernel_rfl) (by kernel_rfl) (by kernel_rfl) (fun listed a' w' => a'.defers = [] ∧ a'.tmps.size = 170 ∧ (a'.eval (.tmp 2) = .slice (some ⟨Y, 0, none⟩) 2 cap ∧ a'.eval (.tmp 3) = .pointer (some ⟨w.heap.size, 0, none⟩) ∧ a'.eval (.tmp 4) = .pointer (some ⟨w.heap.size + 1, 0, none⟩) ∧ a'.eval (.tmp 6) = .pointer (some ⟨w.heap.size + 1 + 1, 0, none⟩)) ∧ (listed[0]? = some true → (a'.eval (.tmp 135) = .agg #[.func (Fn.func rv.fr) #[] rv.cpt, .func (Fn.func rv.fa) #[] #[], .func (Fn.func rv.fm) #[] #[], .func (Fn.func rv.ft) #[] #[], rv.vg])) ∧ (listed[1]? = some true → (a'.eval (.tmp 136) = .agg #[.int .i8 h.kind, .string h.name, .string h.arg, .int .i64 h.num, .int .i8 h.tk, .slice p.TA p.tn p.tc, .int .i8 h.uk, .slice p.UA p.un p.uc, .int .i64 h.label, .int .i64 h.pos, .slice p.A p.n p.c])) ∧ (listed[2]? = some true → (a'.eval (.tmp 137) = .slice (some ⟨Y, 0, none⟩) 2 cap)) ∧ (listed[3]? = some true → (a'.eval (.tmp 138) = .pointer (some ⟨Y, 2, none⟩))) ∧ (listed[4]? = some true → (a'.eval (.tmp 139) = .agg #[.int .i8 b.1, .slice Gb mb cb])) ∧ (listed[5]? = some true → (a'.eval (.tmp 140) = .agg #[.int .i8 1, .slice none 0 0])) ∧ (listed[6]? = some true → (a'.eval (.tmp 141) = .tuple #[]) ∧ (rv.D.ag b (1, .nil) = true)) ∧ Below w1.heap.size w1 w') (fun _ _ _ h => h.1) ?_ ?_ ?_
    · have hz := HZ.out
      refine ⟨rfl, rfl, ⟨rfl, rfl, rfl, rfl⟩, FH, FH, FH, FH, FH, FH, FH, HBW.out.drew⟩
    · rintro listed a' w' i o ⟨hdf, hsz, hx, y0, y1, y2, y3, y4, y5, y6, hbw⟩ hz hsz0 ho hi hp
      have hi13 : i < 7 := by
        rcases Nat.lt_or_ge i 7 with q | q
        · exact q
        · rw [Array.getElem?_eq_none (by simpa using q)] at ho; cases ho
      rcases (by omega : i = 0 ∨ i = 1 ∨ i = 2 ∨ i = 3 ∨ i = 4 ∨ i = 5 ∨ i = 6) with rfl | rfl | rfl | rfl | rfl | rfl | rfl
      · obtain rfl := SI ho
        obtain ⟨c0, c1, c2, c3, c4, c5, c6, c7, c8, c9, c10, c11, c12, c13, c14, c15, c16, c17, c18, c19⟩ := HK.out w' hbw
        exact V_ ho 135 ⟨pd hdf, ps hsz, KX hx, (fun _ => pS hsz), K1 y1, K1 y2, K1 y3, K1 y4, K1 y5, K1 y6, hbw⟩
      · obtain rfl := SI ho
        obtain ⟨c0, c1, c2, c3, c4, c5, c6, c7, c8, c9, c10, c11, c12, c13, c14, c15, c16, c17, c18, c19⟩ := HK.out w' hbw
        exact V_ ho 136 ⟨pd hdf, ps hsz, KX hx, K1 y0, (fun _ => pS hsz), K1 y2, K1 y3, K1 y4, K1 y5, K1 y6, hbw⟩
      · obtain rfl := SI ho
        exact V_ ho 137 ⟨pd hdf, ps hsz, KX hx, K1 y0, K1 y1, (fun _ => pS hsz), K1 y3, K1 y4, K1 y5, K1 y6, hbw⟩
      · obtain rfl := SI ho
        have v2 := hpv hp 2 (by simp)
        have ww2 := (y2 v2)
        exact V_ ho 138 ⟨pd hdf, ps hsz, KX hx, K1 y0, K1 y1, K1 y2, (fun _ => pS hsz), K1 y4, K1 y5, K1 y6, hbw⟩
      · obtain rfl := SI ho
        have v3 := hpv hp 3 (by simp)
        have ww3 := (y3 v3)
        obtain ⟨c0, c1, c2, c3, c4, c5, c6, c7, c8, c9, c10, c11, c12, c13, c14, c15, c16, c17, c18, c19⟩ := HK.out w' hbw
        exact V_ ho 139 ⟨pd hdf, ps hsz, KX hx, K1 y0, K1 y1, K1 y2, K1 y3, (fun _ => pS hsz), K1 y5, K1 y6, hbw⟩
      · obtain rfl := SI ho
        refine C_ ho 140 (ckof_any 1 none 0 0 w') fun e u hg => ?_
        · obtain ⟨he, hb⟩ := hg
          refine ⟨.agg #[.int .i8 1, .slice none 0 0], he, ?_⟩
          have hbs := hbw.size
          have hzz := HZ.out
          have hbs2 := hb.size
          exact ⟨pd hdf, ps hsz, KX hx, K1 y0, K1 y1, K1 y2, K1 y3, K1 y4, (fun _ => pS hsz), K1 y6, hbw.trans (hb.mono hbw.size)⟩
      · obtain rfl := SI ho
        have v0 := hpv hp 0 (by simp)
        have ww0 := (y0 v0)
        have v1 := hpv hp 1 (by simp)
        have ww1 := (y1 v1)
        have v4 := hpv hp 4 (by simp)
        have ww4 := (y4 v4)
        have v5 := hpv hp 5 (by simp)
        have ww5 := (y5 v5)
        refine M_ ho 141 (ckwant_any rv h p b.1 b.2 Gb mb cb 1 .nil none 0 0 w' (HBL.out.later hbw).is (leaf_is (by decide) w') (HS.out.below hbw)) fun e u hg => ?_
        · rcases hg with ⟨hq, hg⟩ | ⟨hq, hg⟩
          · have HP : Ck.Post Q w R e u := by rw [HR.out, if_pos P1.out, if_neg (ne_of_false (show rv.D.ag b (1, .nil) = false from hq))]; exact Ck.Gave.from hg (hfrom.out w' hbw)
            obtain ⟨g, rfl, hg2⟩ := hg
            exact .inr ⟨_, rfl, hdf, HP⟩
          · obtain ⟨he, hb⟩ := hg
            refine .inl ?_
            refine ⟨.tuple #[], he, ?_⟩
            have hbs := hbw.size
            have hzz := HZ.out
            have hbs2 := hb.size
            exact ⟨pd hdf, ps hsz, KX hx, K1 y0, K1 y1, K1 y2, K1 y3, K1 y4, K1 y5, (fun _ => ⟨pS hsz, hq⟩), hbw.trans (hb.mono hbw.size)⟩
    · rintro listed u w' t ht hu ⟨-, -, -, y0, y1, y2, y3, y4, y5, y6, hbw⟩ hall
      have v6 := hall 6 (by decide)
      have HBW2 := Lib.hid hbw
      have P2 := ((y6 v6).2)
      clear y0 y1 y2 y3 y4 y5 y6 v6 hall hu
      clear hbw
      simp only [over, List.setIfInBounds_toArray, List.set_cons_succ, List.set_cons_zero] at ht
      subst ht
      obtain ⟨r0, r1, r2, r3, r4, q0, q1, q2, q3, q4, q5, q6, q7, q8, q9, q10, y0, y1, y2, y3⟩ := HK.out w' HBW2.out
      have CA := Lib.hid (ckanswer_any h.name w')
      go_wp2_with fail
      refine CA.out.mono ?_
      rintro e w5 ⟨rfl, hb5⟩
      have HB5 := Lib.hid (HBW2.out.trans (hb5.mono HBW2.out.size))
      have z2 := heap_below HB5.out (heap_lt H2.out) H2.out
      obtain ⟨x0, x1, f0, f1, xl⟩ := own2 z2
      have hz := HZ.out
      have hs5 := HB5.out.size
      clear hb5
      go_wp2_with fail
      have z3 := set_two z2 (.int .i8 (Ck.opAns h.name).1) (.slice none 0 0)
      obtain ⟨k0, k1, -, -, -⟩ := own2 z3
      refine ⟨rfl, .agg #[.int .i8 (Ck.opAns h.name).1, .slice none 0 0], by simp [results, Tryz.results77, go_sem, k0, k1], ?_⟩
      rw [HR.out, if_pos P1.out, if_pos P2]
      exact ⟨none, 0, 0, rfl, opAns_ly _ _ _, below_set2 (hfrom.out _ HB5.out) (by omega) _ _⟩

end Go.Proofs.YtknhoagicdfikaaGreatDoor
