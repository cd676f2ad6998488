import Derived.Test.YtglgjaomneljbacGreatDoorM14
import Derived.Test.YtglgjaomneljbacGreatDoorM16
namespace Go.Proofs.YtglgjaomneljbacGreatDoor
open Go.RowKit
theorem c1_ {P : Prop} (h : P := by
 obtain ⟨w1, hw1, hB3, x0, x1, x2, hz⟩ := zo w (.cells #[.func (Fn.func rv.fr) #[] rv.cpt, .func (Fn.func rv.fa) #[] #[], .func (Fn.func rv.fm) #[] #[], .func (Fn.func rv.ft) #[] #[], rv.vg] 45) (.cells #[.int .i8 h.kind, .string h.name, .string h.arg, .int .i64 h.num, .int .i8 h.tk, .slice p.TA p.tn p.tc, .int .i8 h.uk, .slice p.UA p.un p.uc, .int .i64 h.label, .int .i64 h.pos, .slice p.A p.n p.c] 28) (.cells #[.int .i8 0, .slice none 0 0] 25)
 have HW1 := k0_ hw1
 have H0 := k0_ x0
 have H1 := k0_ x1
 have H2 := k0_ x2
 have HZ := k0_ hz
 have HB3 := k0_ hB3
 have CC := k0_ (hC w1 hB3 (by omega))
 try rw [hk] at CC
 have HKK := k0_ hk
 clear x0 x1 x2 hz hB3 hC hk
 go_enter Tryz.func47, Tryz.ntmps47
 go_upto_region 1 with fail
 rw [← HW1.out]
 clear hw1
 obtain ⟨r0, r1, r2, r3, r4, -, -, -, -, -, rl⟩ := qF H0.out
 obtain ⟨q0, q1, q2, q3, q4, q5, q6, q7, q8, q9, q10, ql⟩ := zK H1.out
 rw [HKK.out] at q0
 go_wp2_with fail
 refine CC.out.mono ?_
 rintro e w5 hg
 rcases Ck.Post.split hg with ⟨E, pp, x, hr1, hg⟩ | ⟨t1, hr1, hg⟩
 ·have HP : Ck.Post Q w R e w5 := by rw [hr1]; exact Ck.Gave.from hg HB3.out
  obtain ⟨g, rfl, -⟩ := hg
  clear hr1 r0 r1 r2 r3 r4 rl q0 q1 q2 q3 q4 q5 q6 q7 q8 q9 q10 ql
  go_wp2_with fail
  exact ⟨rfl, HP⟩
 ·obtain ⟨G, m, cg, rfl, hl, hb⟩ := hg
  have HL := k0_ hl
  have HB := k0_ hb
  have H5 := kp_ hb H2
  have hzz := HZ.out
  clear hl hb hg r0 r1 r2 r3 r4 rl q0 q1 q2 q3 q4 q5 q6 q7 q8 q9 q10 ql
  obtain ⟨y0, y1, f0, f1, yl⟩ := zH H5.out
  go_wp2_with fail
  have z3 := zL H5.out (.int .i8 t1.1) (.slice G m cg)
  obtain ⟨k0, k1, -, -, -⟩ := zH z3
  refine bodyPost_ret (v := .agg #[.int .i8 t1.1, .slice G m cg]) (by simp [results, Tryz.results47, go_sem, k0, k1]) rfl ?_
  rw [hr1]
  exact ⟨G, m, cg, rfl, (HL.out.set2 (fun b hq => (Ck.Cut.in (by omega) hq).ne (by omega) (by omega)) _ _).weak (fun b _ hq => (Ck.Cut.in (by omega) hq).out (by omega)), zG (HB3.out.trans (HB.out.mono HB3.out.size)) (by omega) _ _⟩) : P := h
theorem c3_ {P : Prop} (h : P := by
 rintro listed u w' t ht hu ⟨-, -, -, y0, y1, y2, y3, y4, y5, y6, hbw⟩ hall
 have v6 := hall 6 (by decide)
 have HBX := k0_ hbw
 have P1 := k0_ ((y6 v6).2)
 clear y0 y1 y2 y3 y4 y5 y6 v6 hall hu
 clear hbw
 simp only [over, List.setIfInBounds_toArray, List.set_cons_succ, List.set_cons_zero] at ht
 subst ht
 have hx1 := zB HBX.out (zC HX1.out) HX1.out
 have hx2 := zB HBX.out (zC HX2.out) HX2.out
 obtain ⟨s0, s1, -, -, -⟩ := zH hx1
 obtain ⟨s2, s3, -, -, -⟩ := zH hx2
 have hA := zN w' (.cells #[.int .i8 (rv.D.asl 5 (Ck.TT h)).1, .slice G1 m1 c1, .int .i8 (rv.D.asr 5 (Ck.TT h)).1, .slice G2 m2 c2] 25)
 have hAn := zD w' (.cells #[.int .i8 (rv.D.asl 5 (Ck.TT h)).1, .slice G1 m1 c1, .int .i8 (rv.D.asr 5 (Ck.TT h)).1, .slice G2 m2 c2] 25)
 have HF := k0_ (Ck.Ly.two (Q := Ck.Cut Q w.heap.size (w.heap.size + 3)) (a := (rv.D.asl 5 (Ck.TT h))) (b := (rv.D.asr 5 (Ck.TT h))) hAn (.inr (by have h1 := HBW.out.size; have h2 := HBX.out.size; have h3 := H1Z.out; omega)) ((HL1.out.later HBX.out).later hA) ((HL2.out.later HBX.out).later hA) 5 (by decide))
 have HA := kt_ HBX hA
 clear hA hAn hx1 hx2
 have CO := k0_ (fun (G : Option Addr) (W : World) => zn 5 G 2 2 W)
 go_wp2_with fail
 refine (CO.out _ _).mono ?_
 rintro e w5 ⟨rfl, hb5⟩
 have HF := Ck.kl_ HF hb5
 have HA := kt_ HA hb5
 clear hb5
 have z2 := zB HA.out (zC H2.out) H2.out
 obtain ⟨x0, x1, f0, f1, xl⟩ := zH z2
 generalize w'.heap.size = S5 at *
 go_wp2_with fail
 have z3 := zL z2 (.int .i8 5) (.slice (some ⟨S5, 0, none⟩) 2 2)
 obtain ⟨k0, k1, -, -, -⟩ := zH z3
 have hz1 := H1Z.out
 refine ⟨rfl, .agg #[.int .i8 5, .slice (some ⟨S5, 0, none⟩) 2 2], by simp [results, Tryz.results68, go_sem, k0, k1], ?_⟩
 rw [HR.out, if_pos HQ1.out, if_pos P1.out]
 exact ⟨some ⟨S5, 0, none⟩, 2, 2, rfl, (HF.out.set2 (fun b hq => hq.ne (by omega) (by omega)) _ _).weak (fun b _ hq => hq.out (by omega)), zG (hfrom.out _ HA.out) (by omega) _ _⟩) : P := h
theorem c4_ {P : Prop} (h : P := by
 have hbs := hbw.size
 have hzz := HZ.out
 have hsa : (w'.alloc (.cells #[.int .i8 0, .slice none 0 0] 25)).heap.size = w'.heap.size + 1 := by simp
 have hba : Below w'.heap.size w' (w'.alloc (.cells #[.int .i8 0, .slice none 0 0] 25)) := (Below.refl _ _).alloc (Nat.le_refl _) _
 have hnew := zD w' (.cells #[.int .i8 0, .slice none 0 0] 25)
 exact ⟨pd hdf, ps hsz, KX hx, w'.heap.size, Z2, Gl, ml, cl, Gr, mr, cr, K1 y0, K1 y1, K1 y2, K1 y3, K1 y4, (kF y5 (fun q => ⟨pn q.1, q.2.1, (Ck.Ly.later (Ck.Ly.weak q.2.2.1 (fun b hl hq => ⟨hq.1, Nat.ne_of_lt hl, hq.2.2⟩)) hba), (Ck.Ly.later (Ck.Ly.weak q.2.2.2 (fun b hl hq => ⟨hq.1, Nat.ne_of_lt hl, hq.2.2⟩)) hba)⟩)), K1 y6, K1 y7, K1 y8, (fun _ => ⟨pS hsz, hbs, (by omega), ⟨_, _, hnew⟩⟩), (kF y10 (fun q => ⟨pn q.1, q.2.1, (by omega), (kJ q.2.2.2)⟩)), KN y11, K1 y12, ⟨(by omega), .inr hbs⟩, ⟨(by omega), hZZ2⟩, hbw.alloc hbw.size _⟩) : P := h
theorem c5_ {P : Prop} (h : P := by
 have hbs := hbw.size
 have hzz := HZ.out
 have hsa : (w'.alloc (.cells #[.int .i8 0, .slice none 0 0] 25)).heap.size = w'.heap.size + 1 := by simp
 have hba : Below w'.heap.size w' (w'.alloc (.cells #[.int .i8 0, .slice none 0 0] 25)) := (Below.refl _ _).alloc (Nat.le_refl _) _
 have hnew := zD w' (.cells #[.int .i8 0, .slice none 0 0] 25)
 exact ⟨pd hdf, ps hsz, KX hx, Z1, w'.heap.size, Gl, ml, cl, Gr, mr, cr, K1 y0, K1 y1, K1 y2, K1 y3, K1 y4, (kF y5 (fun q => ⟨pn q.1, q.2.1, (Ck.Ly.later (Ck.Ly.weak q.2.2.1 (fun b hl hq => ⟨hq.1, hq.2.1, Nat.ne_of_lt hl⟩)) hba), (Ck.Ly.later (Ck.Ly.weak q.2.2.2 (fun b hl hq => ⟨hq.1, hq.2.1, Nat.ne_of_lt hl⟩)) hba)⟩)), K1 y6, K1 y7, K1 y8, (kF y9 (fun q => ⟨pn q.1, q.2.1, (by omega), (kJ q.2.2.2)⟩)), (fun _ => ⟨pS hsz, hbs, (by omega), ⟨_, _, hnew⟩⟩), K1 y11, KN y12, ⟨(by omega), hZZ1⟩, ⟨(by omega), .inr hbs⟩, hbw.alloc hbw.size _⟩) : P := h
theorem c7_ {P : Prop} (h : P := by
 obtain ⟨he, hb⟩ := hg
 refine .inl ?_
 refine ⟨.tuple #[], he, ?_⟩
 have hbs := hbw.size
 have hzz := HZ.out
 have hbs2 := hb.size
 exact ⟨pd hdf, ps hsz, KX hx, K1 y0, K1 y1, K1 y2, K1 y3, K1 y4, K1 y5, (fun _ => ⟨pS hsz, hq⟩), hbw.trans (hb.mono hbw.size)⟩) : P := h
theorem c9_ {P : Prop} (h : P := by
 rw [Array.getElem?_eq_none (by simpa using q)] at ho; cases ho) : P := h
theorem jF {P : Prop} (h : P := by
 obtain ⟨g, rfl, hg2⟩ := hg
 exact .inr ⟨_, rfl, hdf, HP⟩) : P := h
theorem zER {P : Prop} (h : P := by
 obtain rfl := SI ho
 have v10 := hpv hp 10 (by simp)
 have ww10 := (y10 v10).1
 have v8 := hpv hp 8 (by simp)
 have ww8 := (y8 v8).1
 have hne := ((y10 v10).2.2.1)
 have hlo := ((y10 v10).2.1)
 obtain ⟨u0, u1, hbox⟩ := ((y10 v10).2.2.2)
 obtain ⟨bc0, bc1, bf0, bf1, -⟩ := zH hbox
 refine zP ho rfl (zW rfl (w2 := (w'.setCell ⟨Z2, 0, none⟩ (.int .i8 (rv.D.asr 4 a).1)).setCell ⟨Z2, 1, none⟩ (.slice Gr mr cr)) ?_ ?_)
 ·exact EV
 ·have hsa : ((w'.setCell ⟨Z2, 0, none⟩ (.int .i8 (rv.D.asr 4 a).1)).setCell ⟨Z2, 1, none⟩ (.slice Gr mr cr)).heap.size = w'.heap.size := by simp
  have hbs := hbw.size
  have hzz := HZ.out
  exact ⟨hdf, hsz, hx, Z1, Z2, Gl, ml, cl, Gr, mr, cr, K1 y0, K1 y1, K1 y2, K1 y3, K1 y4, K1 y5, K1 y6, K1 y7, K1 y8, K1 y9, (kF y10 (fun q => ⟨q.1, q.2.1, q.2.2.1, (qb q.2.2.2)⟩)), K1 y11, (fun _ => ⟨(z8 ((y8 v8).2)), (z8 v10), zL hbox _ _⟩), ⟨(by omega), hZZ1⟩, ⟨(by omega), hZZ2⟩, zG hbw hlo _ _⟩) : P := h
theorem zEQ {P : Prop} (h : P := by
 obtain rfl := SI ho
 have v9 := hpv hp 9 (by simp)
 have ww9 := (y9 v9).1
 have v7 := hpv hp 7 (by simp)
 have ww7 := (y7 v7).1
 have hne := ((y9 v9).2.2.1)
 have hlo := ((y9 v9).2.1)
 obtain ⟨u0, u1, hbox⟩ := ((y9 v9).2.2.2)
 obtain ⟨bc0, bc1, bf0, bf1, -⟩ := zH hbox
 refine zP ho rfl (zW rfl (w2 := (w'.setCell ⟨Z1, 0, none⟩ (.int .i8 (rv.D.asl 4 a).1)).setCell ⟨Z1, 1, none⟩ (.slice Gl ml cl)) ?_ ?_)
 ·exact EV
 ·have hsa : ((w'.setCell ⟨Z1, 0, none⟩ (.int .i8 (rv.D.asl 4 a).1)).setCell ⟨Z1, 1, none⟩ (.slice Gl ml cl)).heap.size = w'.heap.size := by simp
  have hbs := hbw.size
  have hzz := HZ.out
  exact ⟨hdf, hsz, hx, Z1, Z2, Gl, ml, cl, Gr, mr, cr, K1 y0, K1 y1, K1 y2, K1 y3, K1 y4, K1 y5, K1 y6, K1 y7, K1 y8, (kF y9 (fun q => ⟨q.1, q.2.1, q.2.2.1, (qb q.2.2.2)⟩)), K1 y10, (fun _ => ⟨(z8 ((y7 v7).2)), (z8 v9), zL hbox _ _⟩), K1 y12, ⟨(by omega), hZZ1⟩, ⟨(by omega), hZZ2⟩, zG hbw hlo _ _⟩) : P := h
theorem zEP {P : Prop} (h : P := by
 have hbs := hbw.size
 have hzz := HZ.out
 have hbs2 := hb.size
 exact ⟨pd hdf, ps hsz, KX hx, Z1, Z2, Gl', ml', cl', Gr', mr', cr', K1 y0, K1 y1, K1 y2, K1 y3, K1 y4, (fun _ => ⟨pS hsz, hq, Ck.Ly.weak hl (fun b _ hq => qp (by omega) (by omega) (by omega) hq), Ck.Ly.weak hl2 (fun b _ hq => qp (by omega) (by omega) (by omega) hq)⟩), KN y6, KN y7, KN y8, K1 y9, K1 y10, KN y11, KN y12, ⟨(by omega), hZZ1⟩, ⟨(by omega), hZZ2⟩, hbw.trans (hb.mono hbw.size)⟩) : P := h
theorem zDe {P : Prop} (h : P := by
 have hz := HZ.out
 refine ⟨rfl, rfl, ⟨rfl, rfl, rfl, rfl⟩, (w.heap.size + 2), (w.heap.size + 2), none, 0, 0, none, 0, 0, FH, FH, FH, FH, FH, FH, FH, FH, FH, FH, FH, FH, FH, ⟨(Nat.lt_of_lt_of_le (by omega) (show Below w1.heap.size w1 w1.drew from (Below.refl _ _).drew).size), .inl rfl⟩, ⟨(Nat.lt_of_lt_of_le (by omega) (show Below w1.heap.size w1 w1.drew from (Below.refl _ _).drew).size), .inl rfl⟩, (Below.refl _ _).drew⟩) : P := h
theorem zEO {P : Prop} (h : P := by
 have hP' : (wr.alloc o1).heap.size ≤ b' := by simpa using hP
 have hbl := Ty.zO hx
 have hne : some b' ≠ v.ownBlock := fun e => by have := (hlt b' e.symm).2; omega
 refine ⟨?_, ?_⟩
 ·simp only [Bool.and_eq_true, decide_eq_true_eq]
  refine ⟨by have := h5.size; omega, fun e => ?_⟩
  rcases hat with q | q
  ·exact hne (by rw [← q, e])
  ·rw [q] at e; injection e with e; omega
 ·rw [World.cell?_of_block (hg.block b' (by omega) hne), ((Below.refl u.heap.size u).alloc (Nat.le_refl _) o2).cell (p := ⟨b', o', none⟩) hbl]; exact hx) : P := h
theorem zEN {P : Prop} (h : P := by
 simp only [Bool.and_eq_true, decide_eq_true_eq] at hP
 have hbl := Ty.zO hx
 have hne : some b' ≠ v.ownBlock := fun e => hP.2 e.symm
 refine ⟨?_, ?_⟩
 ·simp only [Bool.and_eq_true, decide_eq_true_eq]
  refine ⟨hP.1, fun e => ?_⟩
  rcases hat with q | q
  ·exact hP.2 (by rw [← q, e])
  ·rw [q] at e; injection e with e; have := hwu.size; omega
 ·rw [World.cell?_of_block (hg.block b' (Nat.lt_of_lt_of_le hbl hwu.size) hne), hwu.cell (p := ⟨b', o', none⟩) hbl]; exact hx) : P := h
theorem zDd {P : Prop} (h : P := by
 have hbs := hbw.size
 have hzz := HZ.out
 have hbs2 := hb.size
 exact ⟨pd hdf, ps hsz, KX hx, K1 y0, K1 y1, K1 y2, K1 y3, K1 y4, (fun _ => pS hsz), K1 y6, hbw.trans (hb.mono hbw.size)⟩) : P := h
theorem zEV {P : Prop} (h : P := by
 obtain ⟨he, hb⟩ := hg
 refine .inl ?_
 refine ⟨.tuple #[], he, ?_⟩
 have hbs := hbw.size
 have hzz := HZ.out
 have hbs2 := hb.size
 exact ⟨pd hdf, ps hsz, KX hx, K1 y0, K1 y1, K1 y2, K1 y3, K1 y4, K1 y5, K1 y6, (fun _ => ⟨pS hsz, hq⟩), hbw.trans (hb.mono hbw.size)⟩) : P := h
theorem zEG {P : Prop} (h : P := by
 intro v' w' hown hg
 have hfin := HFIN.out v' w' (by simpa using hown) hg
 obtain ⟨G, k, rfl, h1, h2⟩ := hfin
 have HF := k0_ (And.intro h1 h2)
 clear h1 h2 hown hg
 go_wp2_with fail
 go_ret
 exact ⟨G, k, rfl, HF.out.1, HF.out.2⟩) : P := h
theorem zD5 {P : Prop} (h : P := by
 obtain ⟨g, rfl, -⟩ := hg
 go_wp2_with fail
 exact ⟨rfl, HP⟩) : P := h
theorem zDc {P : Prop} (h : P := by
 have hz := HZ.out
 refine ⟨rfl, rfl, ⟨rfl, rfl, rfl, rfl, rfl, rfl⟩, FH, FH, FH, FH, FH, FH, FH, (Below.refl _ _).drew⟩) : P := h
theorem ku {P : Prop} (h : P := by
 rcases Nat.lt_or_ge i 7 with q | q
 ·exact q
 ·exact c9_) : P := h
theorem zE6 {P : Prop} (h : P := by
 rcases hg with ⟨hq, hg⟩ | ⟨hq, hg⟩
 ·have HP : Ck.Post Q w R e u := by rw [HR.out, if_neg (zQ (show rv.D.asO 4 a = false from hq))]; exact Ck.Gave.from hg (hfrom.out w' hbw)
  exact jF
 ·obtain ⟨Gl', ml', cl', Gr', mr', cr', rfl, hl, hl2, hb⟩ := hg
  refine .inl ?_
  refine ⟨.tuple #[.agg #[.int .i8 (rv.D.asl 4 a).1, .slice Gl' ml' cl'], .agg #[.int .i8 (rv.D.asr 4 a).1, .slice Gr' mr' cr']], rfl, ?_⟩
  exact zEP) : P := h
theorem zD4 {P : Prop} (h : P := by
 have HP : Ck.Post Q w R e u := by rw [HR.out, hr1]; exact Ck.Gave.from hg (hfrom.out w' hbw)
 exact jF) : P := h
theorem zE5 {P : Prop} (h : P := by
 rcases hg with ⟨hq, hg⟩ | ⟨hq, hg⟩
 ·have HP : Ck.Post Q w R e u := by rw [HR.out, if_neg (zQ (show rv.D.ag a (Ck.TT h) = false from hq))]; exact Ck.Gave.from hg (hfrom.out w' hbw)
  exact jF
 ·exact zEV) : P := h
theorem zD3 {P : Prop} (h : P := by
 rcases Nat.lt_or_ge i 15 with q | q
 ·exact q
 ·exact c9_) : P := h
theorem zDZ {P : Prop} (h : P := by
 exact (h5.trans (hwu.mono h5.size)).grown hg (Nat.le_trans h5.size hwu.size) fun q hq => (hlt q hq).1) : P := h
theorem zDy {P : Prop} (h : P := by
 go_wp2_with fail
 exact bodyPost_ret (v := .agg #[.int .i8 2, .slice none 0 0]) (by simp [results, Tryz.results85, go_sem, *]) rfl ⟨rfl, zG HB2.out (Nat.le_refl _) _ _⟩) : P := h
theorem zDx {P : Prop} (h : P := by
 have HP : Ck.Post Q w R e w2 := by rw [HR.out, if_neg (zQ (show rv.D.asO 5 (Ck.TT h) = false from hq))]; exact Ck.Gave.from hg (hfrom.out w1 (Below.refl _ _))
 exact zD5) : P := h
theorem zDw {P : Prop} (h : P := by
 injection ha with ha
 subst ha
 refine ⟨X, 0, rfl, zC hX, fun j u hu => ?_⟩
 rw [Nat.zero_add]
 exact cell_of_heap hX j (by rw [← Array.getElem?_toList]; exact hu)) : P := h
theorem zDv {P : Prop} (h : P := by
 rw [← zAC h1 h1'] at hrun
 unfold Oper.wp
 simp [execOp, hop, resolve, invoke, builtin, hs, hx, hrun, Result.andThen]
 exact hK' _ _ (hK v' w' r1 r2)) : P := h
theorem zDs {P : Prop} (h : P := by
 obtain ⟨g, rfl, -⟩ := hg
 clear hr1 r0 r1 r2 r3 r4 rl q0 q1 q2 q3 q4 q5 q6 q7 q8 q9 q10 ql
 go_wp2_with fail
 exact ⟨rfl, HP⟩) : P := h
end Go.Proofs.YtglgjaomneljbacGreatDoor
namespace Go.Proofs.YtglgjaomneljbacGreatDoor
namespace Ck
abbrev T2 := Int × Fo
abbrev Env := List (ByteArray × T2)
inductive R where
 | ok (a : T2)
 | bad (E p : Int) (x : ByteArray)
def e0 : ByteArray := ⟨#[]⟩
def fnd : Env → ByteArray → Option T2
 | [], _ => none
 | b :: l, x => match fnd l x with
  | some a => some a
  | none => if (b.1.toList == x.toList) = true then some b.2 else none
def mk2 (k : Int) (a b : T2) : T2 := (k, .node 0 0 a.1 a.2 (.node 0 0 b.1 b.2 .nil))
def hd0 : Hd := ⟨0, e0, e0, 0, 0, .nil, 0, .nil, 0, 0⟩
def k1 : Tm → Hd × Tm
 | .node h k _ => (h, k)
 | .nil => (hd0, .nil)
def k2 : Tm → Hd × Tm
 | .node _ _ r => k1 r
 | .nil => (hd0, .nil)
def k3 : Tm → Hd × Tm
 | .node _ _ r => k2 r
 | .nil => (hd0, .nil)
def TT (h : Hd) : T2 := (h.tk, h.tkids)
def UU (h : Hd) : T2 := (h.uk, h.ukids)
def chk (a : T2) : Nat := Ty.chk a.1 a.2
def ag (a b : T2) : Bool := Ty.agreeT a.1 a.2 b.1 b.2
def asO (k : Int) (a : T2) : Bool := Ty.asOk k a.1 a.2
def asl (k : Int) (a : T2) : T2 := Ty.asL k a.1 a.2
def asr (k : Int) (a : T2) : T2 := Ty.asR k a.1 a.2
def mt (a b : T2) : T2 := (Ty.mK a.1 b.1, Ty.mT a.1 a.2 b.1 b.2)
def lift (h : Hd) : R → R
 | .ok a => if chk a = 0 then .ok a else .bad (chk a) h.pos e0
 | .bad E p x => .bad E p x
def bnd (r : R) (f : T2 → R) : R := match r with
 | .ok a => f a
 | .bad E p x => .bad E p x
def fault (h : Hd) (E : Int) : R := .bad E h.pos e0
def meet (h : Hd) (a b : T2) : R := if ag a b = true then .ok (mt a b) else fault h 91
def opAns (s : ByteArray) : T2 := if (s.toList == [60] || s.toList == [61]) = true then (2, .nil) else (1, .nil)
def over (h : Hd) (a b c : T2) : R :=
 if h.kind = 6 then (if asO 3 a = true then (if ag b (asl 3 a) = true then .ok (asr 3 a) else fault h 91) else fault h 90)
 else if h.kind = 8 then (if ag a (2, .nil) = true then meet h b c else fault h 91)
 else if h.kind = 9 then .ok (mk2 4 a b)
 else if h.kind = 10 then (if asO 4 a = true then .ok (asl 4 a) else fault h 90)
 else if h.kind = 11 then (if asO 4 a = true then .ok (asr 4 a) else fault h 90)
 else if h.kind = 12 then (if asO 5 (TT h) = true then (if ag a (asl 5 (TT h)) = true then .ok (mk2 5 (asl 5 (TT h)) (asr 5 (TT h))) else fault h 91) else fault h 90)
 else if h.kind = 13 then (if asO 5 (TT h) = true then (if ag a (asr 5 (TT h)) = true then .ok (mk2 5 (asl 5 (TT h)) (asr 5 (TT h))) else fault h 91) else fault h 90)
 else if h.kind = 15 then (if ag a (1, .nil) = true then (if ag b (1, .nil) = true then .ok (opAns h.name) else fault h 91) else fault h 91)
 else (if ag a (TT h) = true then .ok (TT h) else fault h 91)
def raw (F : Hd → Tm → Env → R) (h : Hd) (kids : Tm) (l : Env) : R :=
 if h.kind = 0 then (match fnd l h.name with
  | some a => .ok a
  | none => .bad 41 h.pos h.name)
 else if h.kind = 1 then .ok (1, .nil)
 else if h.kind = 2 ∨ h.kind = 3 then .ok (2, .nil)
 else if h.kind = 4 then bnd (F (k1 kids).1 (k1 kids).2 (l ++ [(h.name, TT h)])) fun b => .ok (mk2 3 (TT h) b)
 else if h.kind = 5 then bnd (F (k1 kids).1 (k1 kids).2 (l ++ [(h.name, mk2 3 (TT h) (UU h)), (h.arg, TT h)])) fun b => if ag b (UU h) = true then .ok (mk2 3 (TT h) (UU h)) else fault h 91
 else if h.kind = 7 then bnd (F (k1 kids).1 (k1 kids).2 l) fun a => if ag a (TT h) = true then F (k2 kids).1 (k2 kids).2 (l ++ [(h.name, TT h)]) else fault h 91
 else if h.kind = 14 then bnd (F (k1 kids).1 (k1 kids).2 l) fun a => if asO 5 a = true then bnd (F (k2 kids).1 (k2 kids).2 (l ++ [(h.name, asl 5 a)])) fun b => bnd (F (k3 kids).1 (k3 kids).2 (l ++ [(h.arg, asr 5 a)])) fun c => meet h b c else fault h 90
 else if h.kind = 6 ∨ h.kind = 9 ∨ h.kind = 15 then bnd (F (k1 kids).1 (k1 kids).2 l) fun a => bnd (F (k2 kids).1 (k2 kids).2 l) fun b => over h a b (0, .nil)
 else if h.kind = 8 then bnd (F (k1 kids).1 (k1 kids).2 l) fun a => bnd (F (k2 kids).1 (k2 kids).2 l) fun b => bnd (F (k3 kids).1 (k3 kids).2 l) fun c => over h a b c
 else bnd (F (k1 kids).1 (k1 kids).2 l) fun a => over h a (0, .nil) (0, .nil)
def ty : Nat → Hd → Tm → Env → R
 | 0, h, _, _ => fault h 0
 | K + 1, h, kids, l => lift h (raw (ty K) h kids l)
theorem vI (K : Nat) (h : Hd) (kids : Tm) (l : Env) : ty (K + 1) h kids l = lift h (raw (ty K) h kids l) := rfl
def castF : Tm → Bool
 | .nil => false
 | .node h kids r => (h.kind == 17) || castF kids || castF r
def castT (h : Hd) (kids : Tm) : Bool := (h.kind == 17) || castF kids
def tell (h : Hd) (kids : Tm) : R :=
 if Tm.chk h kids ≠ 0 then .bad (Tm.chk h kids) 0 e0 else if castT h kids = true then .bad 30 0 e0 else ty (Tm.nodes kids + 1) h kids []
theorem xL {h : Hd} {r : R} {a : T2} (e : lift h r = .ok a) : r = .ok a ∧ chk a = 0 := by
 cases r with
 | ok b =>
  simp only [lift] at e
  split at e
  ·injection e with e; subst e; exact ⟨rfl, by assumption⟩
  ·cases e
 | bad _ _ _ => cases e
theorem ky : ∀ {K : Nat} {h : Hd} {kids : Tm} {l : Env} {a : T2}, ty K h kids l = .ok a → chk a = 0
 | 0, _, _, _, _, e => by cases e
 | _ + 1, _, _, _, _, e => (xL e).2
end Ck
end Go.Proofs.YtglgjaomneljbacGreatDoor
