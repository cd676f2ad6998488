/-
  Layer 9: over, a side of a sum.
-/
import Derived.Test.YtknhoagicdfikaaGreatDoorM20
namespace Go.Proofs.YtknhoagicdfikaaGreatDoor
open Go.RowKit
set_option maxHeartbeats 4000000 in
set_option maxRecDepth 100000 in
theorem ckover_12 (rv : Cg.Rv) (Q : Nat → Prop) (h : Hd) (p : Pl) (a : Ck.T2) (Y n cap : Nat) (w : World) (hk : h.kind = 12) (hn : n = 1) (hR : Ck.Row Q w [a] Y) (hS : Shapes w) (hT : Ck.Ly Q w (Ck.TT h) p.TA p.tn p.tc) (hokT : Ty.okT (Ck.TT h).1 (Ck.TT h).2 = true) :
    Calls Tryz.prog 77 #[.agg #[.func (Fn.func rv.fr) #[] rv.cpt, .func (Fn.func rv.fa) #[] #[], .func (Fn.func rv.fm) #[] #[], .func (Fn.func rv.ft) #[] #[], rv.vg], .agg #[.int .i8 h.kind, .string h.name, .string h.arg, .int .i64 h.num, .int .i8 h.tk, .slice p.TA p.tn p.tc, .int .i8 h.uk, .slice p.UA p.un p.uc, .int .i64 h.label, .int .i64 h.pos, .slice p.A p.n p.c], .slice (some ⟨Y, 0, none⟩) n cap] w (Ck.Post Q w (Cg.over rv.D h a (0, .nil) (0, .nil))) := by
  rw [Cg.over_12 _ _ _ _ _ hk]
  obtain ⟨Ga, ma, ca, a0, a1, aL⟩ := hR.cell 0 a rfl
  obtain ⟨w1, hw1, hB3, h0, h1, h2, hz⟩ := boxes3 w (.cells #[.func (Fn.func rv.fr) #[] rv.cpt, .func (Fn.func rv.fa) #[] #[], .func (Fn.func rv.fm) #[] #[], .func (Fn.func rv.ft) #[] #[], rv.vg] 47) (.cells #[.int .i8 h.kind, .string h.name, .string h.arg, .int .i64 h.num, .int .i8 h.tk, .slice p.TA p.tn p.tc, .int .i8 h.uk, .slice p.UA p.un p.uc, .int .i64 h.label, .int .i64 h.pos, .slice p.A p.n p.c] 28) (.cells #[.int .i8 0, .slice none 0 0] 25)
  have HW1 := Lib.hid hw1
  have HB3 := Lib.hid hB3
  have H0 := Lib.hid h0
  have H1 := Lib.hid h1
  have H2 := Lib.hid h2
  have HZ := Lib.hid hz
  have HAL : Hid (Ck.Ly (Ck.Cut Q w.heap.size (w.heap.size + 3)) w1 a Ga ma ca) := Lib.hid ((aL.weak (fun b hl hq => .inl ⟨hq, hl⟩)).later hB3)
  have HS := Lib.hid (hS.below hB3)
  have hfrom := Lib.hid (fun (W : World) (hb : Below w1.heap.size w1 W) => hB3.trans (hb.mono hB3.size))
  have HA := Lib.hid (And.intro (keep_cell a0 hB3) (keep_cell a1 hB3))
  have HK := Lib.hid (fun (W : World) (hb : Below w1.heap.size w1 W) => (show W.cell? ⟨w.heap.size, 0, none⟩ = some (.func (Fn.func rv.fr) #[] rv.cpt) ∧ W.cell? ⟨w.heap.size, 1, none⟩ = some (.func (Fn.func rv.fa) #[] #[]) ∧ W.cell? ⟨w.heap.size, 2, none⟩ = some (.func (Fn.func rv.fm) #[] #[]) ∧ W.cell? ⟨w.heap.size, 3, none⟩ = some (.func (Fn.func rv.ft) #[] #[]) ∧ W.cell? ⟨w.heap.size, 4, none⟩ = some rv.vg ∧ W.cell? ⟨w.heap.size + 1, 0, none⟩ = some (.int .i8 h.kind) ∧ W.cell? ⟨w.heap.size + 1, 1, none⟩ = some (.string h.name) ∧ W.cell? ⟨w.heap.size + 1, 2, none⟩ = some (.string h.arg) ∧ W.cell? ⟨w.heap.size + 1, 3, none⟩ = some (.int .i64 h.num) ∧ W.cell? ⟨w.heap.size + 1, 4, none⟩ = some (.int .i8 h.tk) ∧ W.cell? ⟨w.heap.size + 1, 5, none⟩ = some (.slice p.TA p.tn p.tc) ∧ W.cell? ⟨w.heap.size + 1, 6, none⟩ = some (.int .i8 h.uk) ∧ W.cell? ⟨w.heap.size + 1, 7, none⟩ = some (.slice p.UA p.un p.uc) ∧ W.cell? ⟨w.heap.size + 1, 8, none⟩ = some (.int .i64 h.label) ∧ W.cell? ⟨w.heap.size + 1, 9, none⟩ = some (.int .i64 h.pos) ∧ W.cell? ⟨w.heap.size + 1, 10, none⟩ = some (.slice p.A p.n p.c) ∧ W.cell? ⟨Y, 0, none⟩ = some (.int .i8 a.1) ∧ W.cell? ⟨Y, 1, none⟩ = some (.slice Ga ma ca) from by
    obtain ⟨r0, r1, r2, r3, r4, -⟩ := own5 (heap_below hb (heap_lt H0.out) H0.out)
    obtain ⟨q0, q1, q2, q3, q4, q5, q6, q7, q8, q9, q10, ql⟩ := own11 (heap_below hb (heap_lt H1.out) H1.out)
    exact ⟨r0, r1, r2, r3, r4, q0, q1, q2, q3, q4, q5, q6, q7, q8, q9, q10, keep_cell HA.out.1 hb, keep_cell HA.out.2 hb⟩))
  clear hR hS a0 a1 aL hB3 h0 h1 h2 hz
  subst hn
  have HKK := Lib.hid hk
  clear hk
  have HT : Hid (Ck.Ly (Ck.Cut Q w.heap.size (w.heap.size + 3)) w1 (Ck.TT h) p.TA p.tn p.tc) := Lib.hid ((hT.weak (fun b hl hq => .inl ⟨hq, hl⟩)).later HB3.out)
  clear hT
  obtain ⟨R, hR⟩ : ∃ R, R = (if rv.D.asO 5 (Ck.TT h) = true then (if rv.D.ag a (rv.D.asl 5 (Ck.TT h)) = true then .ok (Ck.mk2 5 (rv.D.asl 5 (Ck.TT h)) (rv.D.asr 5 (Ck.TT h))) else Ck.fault h 91) else Ck.fault h 90) := ⟨_, rfl⟩
  rw [← hR]
  have HR := Lib.hid hR
  clear hR
  go_enter Tryz.func77, Tryz.ntmps77
  go_upto_region 1 with fail
  rw [← HW1.out]
  obtain ⟨r0, r1, r2, r3, r4, q0, q1, q2, q3, q4, q5, q6, q7, q8, q9, q10, y0, y1⟩ := HK.out w1 (Below.refl _ _)
  rw [HKK.out] at q0
  clear hw1
  go_upto_region 18 with fail
  have CP := Lib.hid (ckparts_any rv (Ck.Cut Q w.heap.size (w.heap.size + 3)) h p 5 (Ck.TT h) p.TA p.tn p.tc w1 (by decide) HT.out hokT HS.out)
  rw [HKK.out] at CP
  clear hokT
  go_wp2_with fail
  refine CP.out.mono ?_
  rintro e w2 hg
  rcases hg with ⟨hq, hg⟩ | ⟨hq, hg⟩
  · have HP : Ck.Post Q w R e w2 := by rw [HR.out, if_neg (ne_of_false (show rv.D.asO 5 (Ck.TT h) = false from hq))]; exact Ck.Gave.from hg (hfrom.out w1 (Below.refl _ _))
    obtain ⟨g, rfl, -⟩ := hg
    go_wp2_with fail
    exact ⟨rfl, HP⟩
  · obtain ⟨G1, m1, c1, G2, m2, c2, rfl, hl1, hl2, hb⟩ := hg
    clear r0 r1 r2 r3 r4 q0 q1 q2 q3 q4 q5 q6 q7 q8 q9 q10 y0 y1
    have hl1 := Ck.Ly.weak (Q' := Ck.Cut Q w.heap.size (w.heap.size + 3)) (a := (rv.D.asl 5 (Ck.TT h))) hl1 (fun b _ hq => Ck.Cut.in (by have := HZ.out; omega) hq)
    have hl2 := Ck.Ly.weak (Q' := Ck.Cut Q w.heap.size (w.heap.size + 3)) (a := (rv.D.asr 5 (Ck.TT h))) hl2 (fun b _ hq => Ck.Cut.in (by have := HZ.out; omega) hq)
    have HQ1 := Lib.hid (show rv.D.asO 5 (Ck.TT h) = true from hq)
    have hz2 := hb.size
    obtain ⟨x1, x2⟩ := heap_n2 w2 (.cells #[.int .i8 (rv.D.asl 5 (Ck.TT h)).1, .slice G1 m1 c1] 25) (.cells #[.int .i8 (rv.D.asr 5 (Ck.TT h)).1, .slice G2 m2 c2] 25)
    have hb2 := below_n2 w2 (.cells #[.int .i8 (rv.D.asl 5 (Ck.TT h)).1, .slice G1 m1 c1] 25) (.cells #[.int .i8 (rv.D.asr 5 (Ck.TT h)).1, .slice G2 m2 c2] 25)
    have HX1 := Lib.hid x1
    have HX2 := Lib.hid x2
    have HL1 := Lib.hid (Ck.Ly.later (a := (rv.D.asl 5 (Ck.TT h))) hl1 hb2)
    have HL2 := Lib.hid (Ck.Ly.later (a := (rv.D.asr 5 (Ck.TT h))) hl2 hb2)
    have HBW := Lib.hid (hb.trans (hb2.mono hb.size))
    have H1Z := Lib.hid (show w1.heap.size = w.heap.size + 3 from HZ.out)
    clear hl1 hl2 x1 x2 hb hb2 hq
    go_upto_region 19 with fail
    generalize hw4 : (w2.alloc (.cells #[.int .i8 (rv.D.asl 5 (Ck.TT h)).1, .slice G1 m1 c1] 25)).alloc (.cells #[.int .i8 (rv.D.asr 5 (Ck.TT h)).1, .slice G2 m2 c2] 25) = w4 at *
    clear hw4
    generalize w2.heap.size = S2 at *
    have HZ' := Lib.hid (show w.heap.size + 3 ≤ w4.heap.size from by have h1 := HZ.out; have h2 := HBW.out.size; omega)
    have hs2 : w.heap.size + 3 ≤ S2 := by have h1 := HZ.out; omega
    clear HZ
    have HZ := HZ'
    clear HZ'
    have HK := Lib.hid (fun (W : World) (hb : Below w4.heap.size w4 W) => HK.out W (HBW.out.trans (hb.mono HBW.out.size)))
    have hfrom := Lib.hid (fun (W : World) (hb : Below w4.heap.size w4 W) => hfrom.out W (HBW.out.trans (hb.mono HBW.out.size)))
    have HAL := Lib.hid (HAL.out.later HBW.out)
    have HS := Lib.hid (HS.out.below HBW.out)
    have H2 := Lib.hid (heap_below HBW.out (heap_lt H2.out) H2.out)
    refine region_inv_end2 170 rfl [94, 95, 96, 97, 98, 99, 100] (by kernel_rfl) (by kernel_rfl) (by kernel_rfl) (fun listed a' w' => a'.defers = [] ∧ a'.tmps.size = 170 ∧ (a'.eval (.tmp 2) = .slice (some ⟨Y, 0, none⟩) 1 cap ∧ a'.eval (.tmp 3) = .pointer (some ⟨w.heap.size, 0, none⟩) ∧ a'.eval (.tmp 4) = .pointer (some ⟨w.heap.size + 1, 0, none⟩) ∧ a'.eval (.tmp 6) = .pointer (some ⟨w.heap.size + 1 + 1, 0, none⟩) ∧ a'.eval (.tmp 13) = .pointer (some ⟨S2, 0, none⟩) ∧ a'.eval (.tmp 14) = .pointer (some ⟨S2 + 1, 0, none⟩)) ∧ (listed[0]? = some true → (a'.eval (.tmp 94) = .agg #[.func (Fn.func rv.fr) #[] rv.cpt, .func (Fn.func rv.fa) #[] #[], .func (Fn.func rv.fm) #[] #[], .func (Fn.func rv.ft) #[] #[], rv.vg])) ∧ (listed[1]? = some true → (a'.eval (.tmp 95) = .agg #[.int .i8 h.kind, .string h.name, .string h.arg, .int .i64 h.num, .int .i8 h.tk, .slice p.TA p.tn p.tc, .int .i8 h.uk, .slice p.UA p.un p.uc, .int .i64 h.label, .int .i64 h.pos, .slice p.A p.n p.c])) ∧ (listed[2]? = some true → (a'.eval (.tmp 96) = .slice (some ⟨Y, 0, none⟩) 1 cap)) ∧ (listed[3]? = some true → (a'.eval (.tmp 97) = .pointer (some ⟨Y, 0, none⟩))) ∧ (listed[4]? = some true → (a'.eval (.tmp 98) = .agg #[.int .i8 a.1, .slice Ga ma ca])) ∧ (listed[5]? = some true → (a'.eval (.tmp 99) = .agg #[.int .i8 (rv.D.asl 5 (Ck.TT h)).1, .slice G1 m1 c1])) ∧ (listed[6]? = some true → (a'.eval (.tmp 100) = .tuple #[]) ∧ (rv.D.ag a (rv.D.asl 5 (Ck.TT h)) = true)) ∧ Below w4.heap.size w4 w') (fun _ _ _ h => h.1) ?_ ?_ ?_
    · have hz := HZ.out
      refine ⟨rfl, rfl, ⟨rfl, rfl, rfl, rfl, rfl, rfl⟩, FH, FH, FH, FH, FH, FH, FH, (Below.refl _ _).drew⟩
    · rintro listed a' w' i o ⟨hdf, hsz, hx, y0, y1, y2, y3, y4, y5, y6, hbw⟩ hz hsz0 ho hi hp
      have hi13 : i < 7 := by
        rcases Nat.lt_or_ge i 7 with q | q
        · exact q
        · rw [Array.getElem?_eq_none (by simpa using q)] at ho; cases ho
      rcases (by omega : i = 0 ∨ i = 1 ∨ i = 2 ∨ i = 3 ∨ i = 4 ∨ i = 5 ∨ i = 6) with rfl | rfl | rfl | rfl | rfl | rfl | rfl
      · obtain rfl := SI ho
        obtain ⟨c0, c1, c2, c3, c4, c5, c6, c7, c8, c9, c10, c11, c12, c13, c14, c15, c16, c17⟩ := HK.out w' hbw
        exact V_ ho 94 ⟨pd hdf, ps hsz, KX hx, (fun _ => pS hsz), K1 y1, K1 y2, K1 y3, K1 y4, K1 y5, K1 y6, hbw⟩
      · obtain rfl := SI ho
        obtain ⟨c0, c1, c2, c3, c4, c5, c6, c7, c8, c9, c10, c11, c12, c13, c14, c15, c16, c17⟩ := HK.out w' hbw
        exact V_ ho 95 ⟨pd hdf, ps hsz, KX hx, K1 y0, (fun _ => pS hsz), K1 y2, K1 y3, K1 y4, K1 y5, K1 y6, hbw⟩
      · obtain rfl := SI ho
        exact V_ ho 96 ⟨pd hdf, ps hsz, KX hx, K1 y0, K1 y1, (fun _ => pS hsz), K1 y3, K1 y4, K1 y5, K1 y6, hbw⟩
      · obtain rfl := SI ho
        have v2 := hpv hp 2 (by simp)
        have ww2 := (y2 v2)
        exact V_ ho 97 ⟨pd hdf, ps hsz, KX hx, K1 y0, K1 y1, K1 y2, (fun _ => pS hsz), K1 y4, K1 y5, K1 y6, hbw⟩
      · obtain rfl := SI ho
        have v3 := hpv hp 3 (by simp)
        have ww3 := (y3 v3)
        obtain ⟨c0, c1, c2, c3, c4, c5, c6, c7, c8, c9, c10, c11, c12, c13, c14, c15, c16, c17⟩ := HK.out w' hbw
        exact V_ ho 98 ⟨pd hdf, ps hsz, KX hx, K1 y0, K1 y1, K1 y2, K1 y3, (fun _ => pS hsz), K1 y5, K1 y6, hbw⟩
      · obtain rfl := SI ho
        obtain ⟨e0, e1, -, -, -⟩ := own2 (heap_below hbw (heap_lt HX1.out) HX1.out)
        exact V_ ho 99 ⟨pd hdf, ps hsz, KX hx, K1 y0, K1 y1, K1 y2, K1 y3, K1 y4, (fun _ => pS hsz), K1 y6, hbw⟩
      · obtain rfl := SI ho
        have v0 := hpv hp 0 (by simp)
        have ww0 := (y0 v0)
        have v1 := hpv hp 1 (by simp)
        have ww1 := (y1 v1)
        have v4 := hpv hp 4 (by simp)
        have ww4 := (y4 v4)
        have v5 := hpv hp 5 (by simp)
        have ww5 := (y5 v5)
        refine M_ ho 100 (ckwant_any rv h p a.1 a.2 Ga ma ca (rv.D.asl 5 (Ck.TT h)).1 (rv.D.asl 5 (Ck.TT h)).2 G1 m1 c1 w' (HAL.out.later hbw).is (HL1.out.later hbw).is (HS.out.below hbw)) fun e u hg => ?_
        · rcases hg with ⟨hq, hg⟩ | ⟨hq, hg⟩
          · have HP : Ck.Post Q w R e u := by rw [HR.out, if_pos HQ1.out, if_neg (ne_of_false (show rv.D.ag a (rv.D.asl 5 (Ck.TT h)) = false from hq))]; exact Ck.Gave.from hg (hfrom.out w' hbw)
            obtain ⟨g, rfl, hg2⟩ := hg
            exact .inr ⟨_, rfl, hdf, HP⟩
          · obtain ⟨he, hb⟩ := hg
            refine .inl ?_
            refine ⟨.tuple #[], he, ?_⟩
            have hbs := hbw.size
            have hzz := HZ.out
            have hbs2 := hb.size
            exact ⟨pd hdf, ps hsz, KX hx, K1 y0, K1 y1, K1 y2, K1 y3, K1 y4, K1 y5, (fun _ => ⟨pS hsz, hq⟩), hbw.trans (hb.mono hbw.size)⟩
    · rintro listed u w' t ht hu ⟨-, -, -, y0, y1, y2, y3, y4, y5, y6, hbw⟩ hall
      have v6 := hall 6 (by decide)
      have HBX := Lib.hid hbw
      have P1 := Lib.hid ((y6 v6).2)
      clear y0 y1 y2 y3 y4 y5 y6 v6 hall hu
      clear hbw
      simp only [over, List.setIfInBounds_toArray, List.set_cons_succ, List.set_cons_zero] at ht
      subst ht
      have hx1 := heap_below HBX.out (heap_lt HX1.out) HX1.out
      have hx2 := heap_below HBX.out (heap_lt HX2.out) HX2.out
      obtain ⟨s0, s1, -, -, -⟩ := own2 hx1
      obtain ⟨s2, s3, -, -, -⟩ := own2 hx2
      have hA := below_n1 w' (.cells #[.int .i8 (rv.D.asl 5 (Ck.TT h)).1, .slice G1 m1 c1, .int .i8 (rv.D.asr 5 (Ck.TT h)).1, .slice G2 m2 c2] 25)
      have hAn := heap_new w' (.cells #[.int .i8 (rv.D.asl 5 (Ck.TT h)).1, .slice G1 m1 c1, .int .i8 (rv.D.asr 5 (Ck.TT h)).1, .slice G2 m2 c2] 25)
      have HF := Lib.hid (Ck.Ly.two (Q := Ck.Cut Q w.heap.size (w.heap.size + 3)) (a := (rv.D.asl 5 (Ck.TT h))) (b := (rv.D.asr 5 (Ck.TT h))) hAn (.inr (by have h1 := HBW.out.size; have h2 := HBX.out.size; have h3 := H1Z.out; omega)) ((HL1.out.later HBX.out).later hA) ((HL2.out.later HBX.out).later hA) 5 (by decide))
      have HA := Lib.hid (HBX.out.trans (hA.mono HBX.out.size))
      clear hA hAn hx1 hx2
      have CO := Lib.hid (fun (G : Option Addr) (W : World) => ckof_any 5 G 2 2 W)
      go_wp2_with fail
      refine (CO.out _ _).mono ?_
      rintro e w5 ⟨rfl, hb5⟩
      have HF := Lib.hid (HF.out.later hb5)
      have HA := Lib.hid (HA.out.trans (hb5.mono HA.out.size))
      clear hb5
      have z2 := heap_below HA.out (heap_lt H2.out) H2.out
      obtain ⟨x0, x1, f0, f1, xl⟩ := own2 z2
      generalize w'.heap.size = S5 at *
      go_wp2_with fail
      have z3 := set_two z2 (.int .i8 5) (.slice (some ⟨S5, 0, none⟩) 2 2)
      obtain ⟨k0, k1, -, -, -⟩ := own2 z3
      have hz1 := H1Z.out
      refine ⟨rfl, .agg #[.int .i8 5, .slice (some ⟨S5, 0, none⟩) 2 2], by simp [results, Tryz.results77, go_sem, k0, k1], ?_⟩
      rw [HR.out, if_pos HQ1.out, if_pos P1.out]
      exact ⟨some ⟨S5, 0, none⟩, 2, 2, rfl, (HF.out.set2 (fun b hq => hq.ne (by omega) (by omega)) _ _).weak (fun b _ hq => hq.out (by omega)), below_set2 (hfrom.out _ HA.out) (by omega) _ _⟩
set_option maxHeartbeats 4000000 in
set_option maxRecDepth 100000 in
theorem ckover_13 (rv : Cg.Rv) (Q : Nat → Prop) (h : Hd) (p : Pl) (a : Ck.T2) (Y n cap : Nat) (w : World) (hk : h.kind = 13) (hn : n = 1) (hR : Ck.Row Q w [a] Y) (hS : Shapes w) (hT : Ck.Ly Q w (Ck.TT h) p.TA p.tn p.tc) (hokT : Ty.okT (Ck.TT h).1 (Ck.TT h).2 = true) :
    Calls Tryz.prog 77 #[.agg #[.func (Fn.func rv.fr) #[] rv.cpt, .func (Fn.func rv.fa) #[] #[], .func (Fn.func rv.fm) #[] #[], .func (Fn.func rv.ft) #[] #[], rv.vg], .agg #[.int .i8 h.kind, .string h.name, .string h.arg, .int .i64 h.num, .int .i8 h.tk, .slice p.TA p.tn p.tc, .int .i8 h.uk, .slice p.UA p.un p.uc, .int .i64 h.label, .int .i64 h.pos, .slice p.A p.n p.c], .slice (some ⟨Y, 0, none⟩) n cap] w (Ck.Post Q w (Cg.over rv.D h a (0, .nil) (0, .nil))) := by
  rw [Cg.over_13 _ _ _ _ _ hk]
  obtain ⟨Ga, ma, ca, a0, a1, aL⟩ := hR.cell 0 a rfl
  obtain ⟨w1, hw1, hB3, h0, h1, h2, hz⟩ := boxes3 w (.cells #[.func (Fn.func rv.fr) #[] rv.cpt, .func (Fn.func rv.fa) #[] #[], .func (Fn.func rv.fm) #[] #[], .func (Fn.func rv.ft) #[] #[], rv.vg] 47) (.cells #[.int .i8 h.kind, .string h.name, .string h.arg, .int .i64 h.num, .int .i8 h.tk, .slice p.TA p.tn p.tc, .int .i8 h.uk, .slice p.UA p.un p.uc, .int .i64 h.label, .int .i64 h.pos, .slice p.A p.n p.c] 28) (.cells #[.int .i8 0, .slice none 0 0] 25)
  have HW1 := Lib.hid hw1
  have HB3 := Lib.hid hB3
  have H0 := Lib.hid h0
  have H1 := Lib.hid h1
  have H2 := Lib.hid h2
  have HZ := Lib.hid hz
  have HAL : Hid (Ck.Ly (Ck.Cut Q w.heap.size (w.heap.size + 3)) w1 a Ga ma ca) := Lib.hid ((aL.weak (fun b hl hq => .inl ⟨hq, hl⟩)).later hB3)
  have HS := Lib.hid (hS.below hB3)
  have hfrom := Lib.hid (fun (W : World) (hb : Below w1.heap.size w1 W) => hB3.trans (hb.mono hB3.size))
  have HA := Lib.hid (And.intro (keep_cell a0 hB3) (keep_cell a1 hB3))
  have HK := Lib.hid (fun (W : World) (hb : Below w1.heap.size w1 W) => (show W.cell? ⟨w.heap.size, 0, none⟩ = some (.func (Fn.func rv.fr) #[] rv.cpt) ∧ W.cell? ⟨w.heap.size, 1, none⟩ = some (.func (Fn.func rv.fa) #[] #[]) ∧ W.cell? ⟨w.heap.size, 2, none⟩ = some (.func (Fn.func rv.fm) #[] #[]) ∧ W.cell? ⟨w.heap.size, 3, none⟩ = some (.func (Fn.func rv.ft) #[] #[]) ∧ W.cell? ⟨w.heap.size, 4, none⟩ = some rv.vg ∧ W.cell? ⟨w.heap.size + 1, 0, none⟩ = some (.int .i8 h.kind) ∧ W.cell? ⟨w.heap.size + 1, 1, none⟩ = some (.string h.name) ∧ W.cell? ⟨w.heap.size + 1, 2, none⟩ = some (.string h.arg) ∧ W.cell? ⟨w.heap.size + 1, 3, none⟩ = some (.int .i64 h.num) ∧ W.cell? ⟨w.heap.size + 1, 4, none⟩ = some (.int .i8 h.tk) ∧ W.cell? ⟨w.heap.size + 1, 5, none⟩ = some (.slice p.TA p.tn p.tc) ∧ W.cell? ⟨w.heap.size + 1, 6, none⟩ = some (.int .i8 h.uk) ∧ W.cell? ⟨w.heap.size + 1, 7, none⟩ = some (.slice p.UA p.un p.uc) ∧ W.cell? ⟨w.heap.size + 1, 8, none⟩ = some (.int .i64 h.label) ∧ W.cell? ⟨w.heap.size + 1, 9, none⟩ = some (.int .i64 h.pos) ∧ W.cell? ⟨w.heap.size + 1, 10, none⟩ = some (.slice p.A p.n p.c) ∧ W.cell? ⟨Y, 0, none⟩ = some (.int .i8 a.1) ∧ W.cell? ⟨Y, 1, none⟩ = some (.slice Ga ma ca) from by
    obtain ⟨r0, r1, r2, r3, r4, -⟩ := own5 (heap_below hb (heap_lt H0.out) H0.out)
    obtain ⟨q0, q1, q2, q3, q4, q5, q6, q7, q8, q9, q10, ql⟩ := own11 (heap_below hb (heap_lt H1.out) H1.out)
    exact ⟨r0, r1, r2, r3, r4, q0, q1, q2, q3, q4, q5, q6, q7, q8, q9, q10, keep_cell HA.out.1 hb, keep_cell HA.out.2 hb⟩))
  clear hR hS a0 a1 aL hB3 h0 h1 h2 hz
  subst hn
  have HKK := Lib.hid hk
  clear hk
  have HT : Hid (Ck.Ly (Ck.Cut Q w.heap.size (w.heap.size + 3)) w1 (Ck.TT h) p.TA p.tn p.tc) := Lib.hid ((hT.weak (fun b hl hq => .inl ⟨hq, hl⟩)).later HB3.out)
  clear hT
  obtain ⟨R, hR⟩ : ∃ R, R = (if rv.D.asO 5 (Ck.TT h) = true then (if rv.D.ag a (rv.D.asr 5 (Ck.TT h)) = true then .ok (Ck.mk2 5 (rv.D.asl 5 (Ck.TT h)) (rv.D.asr 5 (Ck.TT h))) else Ck.fault h 91) else Ck.fault h 90) := ⟨_, rfl⟩
  rw [← hR]
  have HR := Lib.hid hR
  clear hR
  go_enter Tryz.func77, Tryz.ntmps77
  go_upto_region 1 with fail
  rw [← HW1.out]
  obtain ⟨r0, r1, r2, r3, r4, q0, q1, q2, q3, q4, q5, q6, q7, q8, q9, q10, y0, y1⟩ := HK.out w1 (Below.refl _ _)
  rw [HKK.out] at q0
  clear hw1
  go_upto_region 22 with fail
  have CP := Lib.hid (ckparts_any rv (Ck.Cut Q w.heap.size (w.heap.size + 3)) h p 5 (Ck.TT h) p.TA p.tn p.tc w1 (by decide) HT.out hokT HS.out)
  rw [HKK.out] at CP
  clear hokT
  go_wp2_with fail
  refine CP.out.mono ?_
  rintro e w2 hg
  rcases hg with ⟨hq, hg⟩ | ⟨hq, hg⟩
  · have HP : Ck.Post Q w R e w2 := by rw [HR.out, if_neg (ne_of_false (show rv.D.asO 5 (Ck.TT h) = false from hq))]; exact Ck.Gave.from hg (hfrom.out w1 (Below.refl _ _))
    obtain ⟨g, rfl, -⟩ := hg
    go_wp2_with fail
    exact ⟨rfl, HP⟩
  · obtain ⟨G1, m1, c1, G2, m2, c2, rfl, hl1, hl2, hb⟩ := hg
    clear r0 r1 r2 r3 r4 q0 q1 q2 q3 q4 q5 q6 q7 q8 q9 q10 y0 y1
    have hl1 := Ck.Ly.weak (Q' := Ck.Cut Q w.heap.size (w.heap.size + 3)) (a := (rv.D.asl 5 (Ck.TT h))) hl1 (fun b _ hq => Ck.Cut.in (by have := HZ.out; omega) hq)
    have hl2 := Ck.Ly.weak (Q' := Ck.Cut Q w.heap.size (w.heap.size + 3)) (a := (rv.D.asr 5 (Ck.TT h))) hl2 (fun b _ hq => Ck.Cut.in (by have := HZ.out; omega) hq)
    have HQ1 := Lib.hid (show rv.D.asO 5 (Ck.TT h) = true from hq)
    have hz2 := hb.size
    obtain ⟨x1, x2⟩ := heap_n2 w2 (.cells #[.int .i8 (rv.D.asl 5 (Ck.TT h)).1, .slice G1 m1 c1] 25) (.cells #[.int .i8 (rv.D.asr 5 (Ck.TT h)).1, .slice G2 m2 c2] 25)
    have hb2 := below_n2 w2 (.cells #[.int .i8 (rv.D.asl 5 (Ck.TT h)).1, .slice G1 m1 c1] 25) (.cells #[.int .i8 (rv.D.asr 5 (Ck.TT h)).1, .slice G2 m2 c2] 25)
    have HX1 := Lib.hid x1
    have HX2 := Lib.hid x2
    have HL1 := Lib.hid (Ck.Ly.later (a := (rv.D.asl 5 (Ck.TT h))) hl1 hb2)
    have HL2 := Lib.hid (Ck.Ly.later (a := (rv.D.asr 5 (Ck.TT h))) hl2 hb2)
    have HBW := Lib.hid (hb.trans (hb2.mono hb.size))
    have H1Z := Lib.hid (show w1.heap.size = w.heap.size + 3 from HZ.out)
    clear hl1 hl2 x1 x2 hb hb2 hq
    go_upto_region 23 with fail
    generalize hw4 : (w2.alloc (.cells #[.int .i8 (rv.D.asl 5 (Ck.TT h)).1, .slice G1 m1 c1] 25)).alloc (.cells #[.int .i8 (rv.D.asr 5 (Ck.TT h)).1, .slice G2 m2 c2] 25) = w4 at *
    clear hw4
    generalize w2.heap.size = S2 at *
    have HZ' := Lib.hid (show w.heap.size + 3 ≤ w4.heap.size from by have h1 := HZ.out; have h2 := HBW.out.size; omega)
    have hs2 : w.heap.size + 3 ≤ S2 := by have h1 := HZ.out; omega
    clear HZ
    have HZ := HZ'
    clear HZ'
    have HK := Lib.hid (fun (W : World) (hb : Below w4.heap.size w4 W) => HK.out W (HBW.out.trans (hb.mono HBW.out.size)))
    have hfrom := Lib.hid (fun (W : World) (hb : Below w4.heap.size w4 W) => hfrom.out W (HBW.out.trans (hb.mono HBW.out.size)))
    have HAL := Lib.hid (HAL.out.later HBW.out)
    have HS := Lib.hid (HS.out.below HBW.out)
    have H2 := Lib.hid (heap_below HBW.out (heap_lt H2.out) H2.out)
    refine region_inv_end2 170 rfl [115, 116, 117, 118, 119, 120, 121] (by kernel_rfl) (by kernel_rfl) (by kernel_rfl) (fun listed a' w' => a'.defers = [] ∧ a'.tmps.size = 170 ∧ (a'.eval (.tmp 2) = .slice (some ⟨Y, 0, none⟩) 1 cap ∧ a'.eval (.tmp 3) = .pointer (some ⟨w.heap.size, 0, none⟩) ∧ a'.eval (.tmp 4) = .pointer (some ⟨w.heap.size + 1, 0, none⟩) ∧ a'.eval (.tmp 6) = .pointer (some ⟨w.heap.size + 1 + 1, 0, none⟩) ∧ a'.eval (.tmp 15) = .pointer (some ⟨S2, 0, none⟩) ∧ a'.eval (.tmp 16) = .pointer (some ⟨S2 + 1, 0, none⟩)) ∧ (listed[0]? = some true → (a'.eval (.tmp 115) = .agg #[.func (Fn.func rv.fr) #[] rv.cpt, .func (Fn.func rv.fa) #[] #[], .func (Fn.func rv.fm) #[] #[], .func (Fn.func rv.ft) #[] #[], rv.vg])) ∧ (listed[1]? = some true → (a'.eval (.tmp 116) = .agg #[.int .i8 h.kind, .string h.name, .string h.arg, .int .i64 h.num, .int .i8 h.tk, .slice p.TA p.tn p.tc, .int .i8 h.uk, .slice p.UA p.un p.uc, .int .i64 h.label, .int .i64 h.pos, .slice p.A p.n p.c])) ∧ (listed[2]? = some true → (a'.eval (.tmp 117) = .slice (some ⟨Y, 0, none⟩) 1 cap)) ∧ (listed[3]? = some true → (a'.eval (.tmp 118) = .pointer (some ⟨Y, 0, none⟩))) ∧ (listed[4]? = some true → (a'.eval (.tmp 119) = .agg #[.int .i8 a.1, .slice Ga ma ca])) ∧ (listed[5]? = some true → (a'.eval (.tmp 120) = .agg #[.int .i8 (rv.D.asr 5 (Ck.TT h)).1, .slice G2 m2 c2])) ∧ (listed[6]? = some true → (a'.eval (.tmp 121) = .tuple #[]) ∧ (rv.D.ag a (rv.D.asr 5 (Ck.TT h)) = true)) ∧ Below w4.heap.size w4 w') (fun _ _ _ h => h.1) ?_ ?_ ?_
    · have hz := HZ.out
      refine ⟨rfl, rfl, ⟨rfl, rfl, rfl, rfl, rfl, rfl⟩, FH, FH, FH, FH, FH, FH, FH, (Below.refl _ _).drew⟩
    · rintro listed a' w' i o ⟨hdf, hsz, hx, y0, y1, y2, y3, y4, y5, y6, hbw⟩ hz hsz0 ho hi hp
      have hi13 : i < 7 := by
        rcases Nat.lt_or_ge i 7 with q | q
        · exact q
        · rw [Array.getElem?_eq_none (by simpa using q)] at ho; cases ho
      rcases (by omega : i = 0 ∨ i = 1 ∨ i = 2 ∨ i = 3 ∨ i = 4 ∨ i = 5 ∨ i = 6) with rfl | rfl | rfl | rfl | rfl | rfl | rfl
      · obtain rfl := SI ho
        obtain ⟨c0, c1, c2, c3, c4, c5, c6, c7, c8, c9, c10, c11, c12, c13, c14, c15, c16, c17⟩ := HK.out w' hbw
        exact V_ ho 115 ⟨pd hdf, ps hsz, KX hx, (fun _ => pS hsz), K1 y1, K1 y2, K1 y3, K1 y4, K1 y5, K1 y6, hbw⟩
      · obtain rfl := SI ho
        obtain ⟨c0, c1, c2, c3, c4, c5, c6, c7, c8, c9, c10, c11, c12, c13, c14, c15, c16, c17⟩ := HK.out w' hbw
        exact V_ ho 116 ⟨pd hdf, ps hsz, KX hx, K1 y0, (fun _ => pS hsz), K1 y2, K1 y3, K1 y4, K1 y5, K1 y6, hbw⟩
      · obtain rfl := SI ho
        exact V_ ho 117 ⟨pd hdf, ps hsz, KX hx, K1 y0, K1 y1, (fun _ => pS hsz), K1 y3, K1 y4, K1 y5, K1 y6, hbw⟩
      · obtain rfl := SI ho
        have v2 := hpv hp 2 (by simp)
        have ww2 := (y2 v2)
        exact V_ ho 118 ⟨pd hdf, ps hsz, KX hx, K1 y0, K1 y1, K1 y2, (fun _ => pS hsz), K1 y4, K1 y5, K1 y6, hbw⟩
      · obtain rfl := SI ho
        have v3 := hpv hp 3 (by simp)
        have ww3 := (y3 v3)
        obtain ⟨c0, c1, c2, c3, c4, c5, c6, c7, c8, c9, c10, c11, c12, c13, c14, c15, c16, c17⟩ := HK.out w' hbw
        exact V_ ho 119 ⟨pd hdf, ps hsz, KX hx, K1 y0, K1 y1, K1 y2, K1 y3, (fun _ => pS hsz), K1 y5, K1 y6, hbw⟩
      · obtain rfl := SI ho
        obtain ⟨e0, e1, -, -, -⟩ := own2 (heap_below hbw (heap_lt HX2.out) HX2.out)
        exact V_ ho 120 ⟨pd hdf, ps hsz, KX hx, K1 y0, K1 y1, K1 y2, K1 y3, K1 y4, (fun _ => pS hsz), K1 y6, hbw⟩
      · obtain rfl := SI ho
        have v0 := hpv hp 0 (by simp)
        have ww0 := (y0 v0)
        have v1 := hpv hp 1 (by simp)
        have ww1 := (y1 v1)
        have v4 := hpv hp 4 (by simp)
        have ww4 := (y4 v4)
        have v5 := hpv hp 5 (by simp)
        have ww5 := (y5 v5)
        refine M_ ho 121 (ckwant_any rv h p a.1 a.2 Ga ma ca (rv.D.asr 5 (Ck.TT h)).1 (rv.D.asr 5 (Ck.TT h)).2 G2 m2 c2 w' (HAL.out.later hbw).is (HL2.out.later hbw).is (HS.out.below hbw)) fun e u hg => ?_
        · rcases hg with ⟨hq, hg⟩ | ⟨hq, hg⟩
          · have HP : Ck.Post Q w R e u := by rw [HR.out, if_pos HQ1.out, if_neg (ne_of_false (show rv.D.ag a (rv.D.asr 5 (Ck.TT h)) = false from hq))]; exact Ck.Gave.from hg (hfrom.out w' hbw)
            obtain ⟨g, rfl, hg2⟩ := hg
            exact .inr ⟨_, rfl, hdf, HP⟩
          · obtain ⟨he, hb⟩ := hg
            refine .inl ?_
            refine ⟨.tuple #[], he, ?_⟩
            have hbs := hbw.size
            have hzz := HZ.out
            have hbs2 := hb.size
            exact ⟨pd hdf, ps hsz, KX hx, K1 y0, K1 y1, K1 y2, K1 y3, K1 y4, K1 y5, (fun _ => ⟨pS hsz, hq⟩), hbw.trans (hb.mono hbw.size)⟩
    · rintro listed u w' t ht hu ⟨-, -, -, y0, y1, y2, y3, y4, y5, y6, hbw⟩ hall
      have v6 := hall 6 (by decide)
      have HBX := Lib.hid hbw
      have P1 := Lib.hid ((y6 v6).2)
      clear y0 y1 y2 y3 y4 y5 y6 v6 hall hu
      clear hbw
      simp only [over, List.setIfInBounds_toArray, List.set_cons_succ, List.set_cons_zero] at ht
      subst ht
      have hx1 := heap_below HBX.out (heap_lt HX1.out) HX1.out
      have hx2 := heap_below HBX.out (heap_lt HX2.out) HX2.out
      obtain ⟨s0, s1, -, -, -⟩ := own2 hx1
      obtain ⟨s2, s3, -, -, -⟩ := own2 hx2
      have hA := below_n1 w' (.cells #[.int .i8 (rv.D.asl 5 (Ck.TT h)).1, .slice G1 m1 c1, .int .i8 (rv.D.asr 5 (Ck.TT h)).1, .slice G2 m2 c2] 25)
      have hAn := heap_new w' (.cells #[.int .i8 (rv.D.asl 5 (Ck.TT h)).1, .slice G1 m1 c1, .int .i8 (rv.D.asr 5 (Ck.TT h)).1, .slice G2 m2 c2] 25)
      have HF := Lib.hid (Ck.Ly.two (Q := Ck.Cut Q w.heap.size (w.heap.size + 3)) (a := (rv.D.asl 5 (Ck.TT h))) (b := (rv.D.asr 5 (Ck.TT h))) hAn (.inr (by have h1 := HBW.out.size; have h2 := HBX.out.size; have h3 := H1Z.out; omega)) ((HL1.out.later HBX.out).later hA) ((HL2.out.later HBX.out).later hA) 5 (by decide))
      have HA := Lib.hid (HBX.out.trans (hA.mono HBX.out.size))
      clear hA hAn hx1 hx2
      have CO := Lib.hid (fun (G : Option Addr) (W : World) => ckof_any 5 G 2 2 W)
      go_wp2_with fail
      refine (CO.out _ _).mono ?_
      rintro e w5 ⟨rfl, hb5⟩
      have HF := Lib.hid (HF.out.later hb5)
      have HA := Lib.hid (HA.out.trans (hb5.mono HA.out.size))
      clear hb5
      have z2 := heap_below HA.out (heap_lt H2.out) H2.out
      obtain ⟨x0, x1, f0, f1, xl⟩ := own2 z2
      generalize w'.heap.size = S5 at *
      go_wp2_with fail
      have z3 := set_two z2 (.int .i8 5) (.slice (some ⟨S5, 0, none⟩) 2 2)
      obtain ⟨k0, k1, -, -, -⟩ := own2 z3
      have hz1 := H1Z.out
      refine ⟨rfl, .agg #[.int .i8 5, .slice (some ⟨S5, 0, none⟩) 2 2], by simp [results, Tryz.results77, go_sem, k0, k1], ?_⟩
      rw [HR.out, if_pos HQ1.out, if_pos P1.out]
      exact ⟨some ⟨S5, 0, none⟩, 2, 2, rfl, (HF.out.set2 (fun b hq => hq.ne (by omega) (by omega)) _ _).weak (fun b _ hq => hq.out (by omega)), below_set2 (hfrom.out _ HA.out) (by omega) _ _⟩

end Go.Proofs.YtknhoagicdfikaaGreatDoor
