import Derived.Maps.OwnOps
import Derived.Maps.OwnSet
import Derived.Laws.NewBlocks
import Derived.LoopN
import Derived.Test.YtgjemmmbnpkamaaGreatDoorM7
import Derived.Test.YtgjemmmbnpkamaaGreatDoorM24
import Derived.ArgAppend
namespace Go.Proofs.YtgjemmmbnpkamaaGreatDoor
open Go.RowKit
theorem c1_ {P : Prop} (h : P := by
  obtain ⟨w1, hw1, hB3, x0, x1, x2, hz⟩ := qN w (.cells #[.func (Fn.func rv.fr) #[] rv.cpt, .func (Fn.func rv.fa) #[] #[], .func (Fn.func rv.fm) #[] #[], .func (Fn.func rv.ft) #[] #[], rv.vg] 56) (.cells #[.int .i8 h.kind, .string h.name, .string h.arg, .int .i64 h.num, .int .i8 h.tk, .slice p.TA p.tn p.tc, .int .i8 h.uk, .slice p.UA p.un p.uc, .int .i64 h.label, .int .i64 h.pos, .slice p.A p.n p.c] 28) (.cells #[.int .i8 0, .slice none 0 0] 25)
  have HW1 := k0_ hw1
  have H0 := k0_ x0
  have H1 := k0_ x1
  have H2 := k0_ x2
  have HZ := k0_ hz
  have HB3 := k0_ hB3
  have CC := k0_ (hC w1 hB3 (by omega))
  try rw [hk] at CC
  have HKK := k0_ hk
  clear x0 x1 x2 hz hB3 hC hk
  go_enter Tryz.func66, Tryz.ntmps66
  go_upto_region 1 with fail
  rw [← HW1.out]
  clear hw1
  obtain ⟨r0, r1, r2, r3, r4, -, -, -, -, -, rl⟩ := jI H0.out
  obtain ⟨q0, q1, q2, q3, q4, q5, q6, q7, q8, q9, q10, ql⟩ := zN H1.out
  rw [HKK.out] at q0
  go_wp2_with fail
  refine CC.out.mono ?_
  rintro e w5 hg
  rcases Ck.Post.split hg with ⟨E, pp, x, hr1, hg⟩ | ⟨t1, hr1, hg⟩
  · have HP : Ck.Post Q w R e w5 := by rw [hr1]; exact Ck.Gave.from hg HB3.out
    obtain ⟨g, rfl, -⟩ := hg
    clear hr1 r0 r1 r2 r3 r4 rl q0 q1 q2 q3 q4 q5 q6 q7 q8 q9 q10 ql
    go_wp2_with fail
    exact ⟨rfl, HP⟩
  · obtain ⟨G, m, cg, rfl, hl, hb⟩ := hg
    have HL := k0_ hl
    have HB := k0_ hb
    have H5 := kp_ hb H2
    have hzz := HZ.out
    clear hl hb hg r0 r1 r2 r3 r4 rl q0 q1 q2 q3 q4 q5 q6 q7 q8 q9 q10 ql
    obtain ⟨y0, y1, f0, f1, yl⟩ := zM H5.out
    go_wp2_with fail
    have z3 := zT H5.out (.int .i8 t1.1) (.slice G m cg)
    obtain ⟨k0, k1, -, -, -⟩ := zM z3
    refine bodyPost_ret (v := .agg #[.int .i8 t1.1, .slice G m cg]) (by simp [results, Tryz.results66, go_sem, k0, k1]) rfl ?_
    rw [hr1]
    exact ⟨G, m, cg, rfl, (HL.out.set2 (fun b hq => (Ck.Cut.in (by omega) hq).ne (by omega) (by omega)) _ _).weak (fun b _ hq => (Ck.Cut.in (by omega) hq).out (by omega)), zL (HB3.out.trans (HB.out.mono HB3.out.size)) (by omega) _ _⟩) : P := h
theorem c7_ {P : Prop} (h : P := by
  rintro listed u w' t ht hu ⟨-, -, -, y0, y1, y2, y3, y4, y5, y6, hbw⟩ hall
  have v6 := hall 6 (by decide)
  have HBX := k0_ hbw
  have P1 := k0_ ((y6 v6).2)
  clear y0 y1 y2 y3 y4 y5 y6 v6 hall hu
  clear hbw
  simp only [over, List.setIfInBounds_toArray, List.set_cons_succ, List.set_cons_zero] at ht
  subst ht
  have hx1 := zC HBX.out (zD HX1.out) HX1.out
  have hx2 := zC HBX.out (zD HX2.out) HX2.out
  obtain ⟨s0, s1, -, -, -⟩ := zM hx1
  obtain ⟨s2, s3, -, -, -⟩ := zM hx2
  have hA := za w' (.cells #[.int .i8 (rv.D.asl 5 (Ck.TT h)).1, .slice G1 m1 c1, .int .i8 (rv.D.asr 5 (Ck.TT h)).1, .slice G2 m2 c2] 25)
  have hAn := zF w' (.cells #[.int .i8 (rv.D.asl 5 (Ck.TT h)).1, .slice G1 m1 c1, .int .i8 (rv.D.asr 5 (Ck.TT h)).1, .slice G2 m2 c2] 25)
  have HF := k0_ (Ck.Ly.two (Q := Ck.Cut Q w.heap.size (w.heap.size + 3)) (a := (rv.D.asl 5 (Ck.TT h))) (b := (rv.D.asr 5 (Ck.TT h))) hAn (.inr (by have h1 := HBW.out.size; have h2 := HBX.out.size; have h3 := H1Z.out; omega)) ((HL1.out.later HBX.out).later hA) ((HL2.out.later HBX.out).later hA) 5 (by decide))
  have HA := kt_ HBX hA
  clear hA hAn hx1 hx2
  have CO := k0_ (fun (G : Option Addr) (W : World) => qf 5 G 2 2 W)
  go_wp2_with fail
  refine (CO.out _ _).mono ?_
  rintro e w5 ⟨rfl, hb5⟩
  have HF := Ck.kl_ HF hb5
  have HA := kt_ HA hb5
  clear hb5
  have z2 := zC HA.out (zD H2.out) H2.out
  obtain ⟨x0, x1, f0, f1, xl⟩ := zM z2
  generalize w'.heap.size = S5 at *
  go_wp2_with fail
  have z3 := zT z2 (.int .i8 5) (.slice (some ⟨S5, 0, none⟩) 2 2)
  obtain ⟨k0, k1, -, -, -⟩ := zM z3
  have hz1 := H1Z.out
  refine ⟨rfl, .agg #[.int .i8 5, .slice (some ⟨S5, 0, none⟩) 2 2], by simp [results, Tryz.results104, go_sem, k0, k1], ?_⟩
  rw [HR.out, if_pos HQ1.out, if_pos P1.out]
  exact ⟨some ⟨S5, 0, none⟩, 2, 2, rfl, (HF.out.set2 (fun b hq => hq.ne (by omega) (by omega)) _ _).weak (fun b _ hq => hq.out (by omega)), zL (hfrom.out _ HA.out) (by omega) _ _⟩) : P := h
theorem c8_ {P : Prop} (h : P := by
  have hbs := hbw.size
  have hzz := HZ.out
  have hsa : (w'.alloc (.cells #[.int .i8 0, .slice none 0 0] 25)).heap.size = w'.heap.size + 1 := by simp
  have hba : Below w'.heap.size w' (w'.alloc (.cells #[.int .i8 0, .slice none 0 0] 25)) := (Below.refl _ _).alloc (Nat.le_refl _) _
  have hnew := zF w' (.cells #[.int .i8 0, .slice none 0 0] 25)
  exact ⟨pd hdf, ps hsz, KX hx, w'.heap.size, Z2, Gl, ml, cl, Gr, mr, cr, K1 y0, K1 y1, K1 y2, K1 y3, K1 y4, (kF y5 (fun q => ⟨pn q.1, q.2.1, (Ck.Ly.later (Ck.Ly.weak q.2.2.1 (fun b hl hq => ⟨hq.1, Nat.ne_of_lt hl, hq.2.2⟩)) hba), (Ck.Ly.later (Ck.Ly.weak q.2.2.2 (fun b hl hq => ⟨hq.1, Nat.ne_of_lt hl, hq.2.2⟩)) hba)⟩)), K1 y6, K1 y7, K1 y8, (fun _ => ⟨pS hsz, hbs, (by omega), ⟨_, _, hnew⟩⟩), (kF y10 (fun q => ⟨pn q.1, q.2.1, (by omega), (xD q.2.2.2)⟩)), KN y11, K1 y12, ⟨(by omega), .inr hbs⟩, ⟨(by omega), hZZ2⟩, hbw.alloc hbw.size _⟩) : P := h
theorem c9_ {P : Prop} (h : P := by
  have hbs := hbw.size
  have hzz := HZ.out
  have hsa : (w'.alloc (.cells #[.int .i8 0, .slice none 0 0] 25)).heap.size = w'.heap.size + 1 := by simp
  have hba : Below w'.heap.size w' (w'.alloc (.cells #[.int .i8 0, .slice none 0 0] 25)) := (Below.refl _ _).alloc (Nat.le_refl _) _
  have hnew := zF w' (.cells #[.int .i8 0, .slice none 0 0] 25)
  exact ⟨pd hdf, ps hsz, KX hx, Z1, w'.heap.size, Gl, ml, cl, Gr, mr, cr, K1 y0, K1 y1, K1 y2, K1 y3, K1 y4, (kF y5 (fun q => ⟨pn q.1, q.2.1, (Ck.Ly.later (Ck.Ly.weak q.2.2.1 (fun b hl hq => ⟨hq.1, hq.2.1, Nat.ne_of_lt hl⟩)) hba), (Ck.Ly.later (Ck.Ly.weak q.2.2.2 (fun b hl hq => ⟨hq.1, hq.2.1, Nat.ne_of_lt hl⟩)) hba)⟩)), K1 y6, K1 y7, K1 y8, (kF y9 (fun q => ⟨pn q.1, q.2.1, (by omega), (xD q.2.2.2)⟩)), (fun _ => ⟨pS hsz, hbs, (by omega), ⟨_, _, hnew⟩⟩), K1 y11, KN y12, ⟨(by omega), hZZ1⟩, ⟨(by omega), .inr hbs⟩, hbw.alloc hbw.size _⟩) : P := h
theorem zD6 {P : Prop} (h : P := by
  obtain ⟨he, hb⟩ := hg
  refine .inl ?_
  refine ⟨.tuple #[], he, ?_⟩
  have hbs := hbw.size
  have hzz := HZ.out
  have hbs2 := hb.size
  exact ⟨pd hdf, ps hsz, KX hx, K1 y0, K1 y1, K1 y2, K1 y3, K1 y4, K1 y5, (fun _ => ⟨pS hsz, hq⟩), hbw.trans (hb.mono hbw.size)⟩) : P := h
theorem vH {P : Prop} (h : P := by
  obtain ⟨g, rfl, hg2⟩ := hg
  exact .inr ⟨_, rfl, hdf, HP⟩) : P := h
theorem ve {P : Prop} (h : P := by
  rw [Array.getElem?_eq_none (by simpa using q)] at ho; cases ho) : P := h
theorem zHT {P : Prop} (h : P := by
  obtain rfl := SI ho
  have v10 := hpv hp 10 (by simp)
  have ww10 := (y10 v10).1
  have v8 := hpv hp 8 (by simp)
  have ww8 := (y8 v8).1
  have hne := ((y10 v10).2.2.1)
  have hlo := ((y10 v10).2.1)
  obtain ⟨u0, u1, hbox⟩ := ((y10 v10).2.2.2)
  obtain ⟨bc0, bc1, bf0, bf1, -⟩ := zM hbox
  refine zW ho rfl (zx rfl (w2 := (w'.setCell ⟨Z2, 0, none⟩ (.int .i8 (rv.D.asr 4 a).1)).setCell ⟨Z2, 1, none⟩ (.slice Gr mr cr)) ?_ ?_)
  · exact EV
  · have hsa : ((w'.setCell ⟨Z2, 0, none⟩ (.int .i8 (rv.D.asr 4 a).1)).setCell ⟨Z2, 1, none⟩ (.slice Gr mr cr)).heap.size = w'.heap.size := by simp
    have hbs := hbw.size
    have hzz := HZ.out
    exact ⟨hdf, hsz, hx, Z1, Z2, Gl, ml, cl, Gr, mr, cr, K1 y0, K1 y1, K1 y2, K1 y3, K1 y4, K1 y5, K1 y6, K1 y7, K1 y8, K1 y9, (kF y10 (fun q => ⟨q.1, q.2.1, q.2.2.1, (jS q.2.2.2)⟩)), K1 y11, (fun _ => ⟨(zA ((y8 v8).2)), (zA v10), zT hbox _ _⟩), ⟨(by omega), hZZ1⟩, ⟨(by omega), hZZ2⟩, zL hbw hlo _ _⟩) : P := h
theorem zHS {P : Prop} (h : P := by
  obtain rfl := SI ho
  have v9 := hpv hp 9 (by simp)
  have ww9 := (y9 v9).1
  have v7 := hpv hp 7 (by simp)
  have ww7 := (y7 v7).1
  have hne := ((y9 v9).2.2.1)
  have hlo := ((y9 v9).2.1)
  obtain ⟨u0, u1, hbox⟩ := ((y9 v9).2.2.2)
  obtain ⟨bc0, bc1, bf0, bf1, -⟩ := zM hbox
  refine zW ho rfl (zx rfl (w2 := (w'.setCell ⟨Z1, 0, none⟩ (.int .i8 (rv.D.asl 4 a).1)).setCell ⟨Z1, 1, none⟩ (.slice Gl ml cl)) ?_ ?_)
  · exact EV
  · have hsa : ((w'.setCell ⟨Z1, 0, none⟩ (.int .i8 (rv.D.asl 4 a).1)).setCell ⟨Z1, 1, none⟩ (.slice Gl ml cl)).heap.size = w'.heap.size := by simp
    have hbs := hbw.size
    have hzz := HZ.out
    exact ⟨hdf, hsz, hx, Z1, Z2, Gl, ml, cl, Gr, mr, cr, K1 y0, K1 y1, K1 y2, K1 y3, K1 y4, K1 y5, K1 y6, K1 y7, K1 y8, (kF y9 (fun q => ⟨q.1, q.2.1, q.2.2.1, (jS q.2.2.2)⟩)), K1 y10, (fun _ => ⟨(zA ((y7 v7).2)), (zA v9), zT hbox _ _⟩), K1 y12, ⟨(by omega), hZZ1⟩, ⟨(by omega), hZZ2⟩, zL hbw hlo _ _⟩) : P := h
theorem zHQ {P : Prop} (h : P := by
  have hbs := hbw.size
  have hzz := HZ.out
  have hbs2 := hb.size
  exact ⟨pd hdf, ps hsz, KX hx, Z1, Z2, Gl', ml', cl', Gr', mr', cr', K1 y0, K1 y1, K1 y2, K1 y3, K1 y4, (fun _ => ⟨pS hsz, hq, Ck.Ly.weak hl (fun b _ hq => ji (by omega) (by omega) (by omega) hq), Ck.Ly.weak hl2 (fun b _ hq => ji (by omega) (by omega) (by omega) hq)⟩), KN y6, KN y7, KN y8, K1 y9, K1 y10, KN y11, KN y12, ⟨(by omega), hZZ1⟩, ⟨(by omega), hZZ2⟩, hbw.trans (hb.mono hbw.size)⟩) : P := h
theorem zGE {P : Prop} (h : P := by
  have hz := HZ.out
  refine ⟨rfl, rfl, ⟨rfl, rfl, rfl, rfl⟩, (w.heap.size + 2), (w.heap.size + 2), none, 0, 0, none, 0, 0, FH, FH, FH, FH, FH, FH, FH, FH, FH, FH, FH, FH, FH, ⟨(Nat.lt_of_lt_of_le (by omega) (show Below w1.heap.size w1 w1.drew from (Below.refl _ _).drew).size), .inl rfl⟩, ⟨(Nat.lt_of_lt_of_le (by omega) (show Below w1.heap.size w1 w1.drew from (Below.refl _ _).drew).size), .inl rfl⟩, (Below.refl _ _).drew⟩) : P := h
theorem zHP {P : Prop} (h : P := by
  have hP' : (wr.alloc o1).heap.size ≤ b' := by simpa using hP
  have hbl := Ty.zR hx
  have hne : some b' ≠ v.ownBlock := fun e => by have := (hlt b' e.symm).2; omega
  refine ⟨?_, ?_⟩
  · simp only [Bool.and_eq_true, decide_eq_true_eq]
    refine ⟨by have := h5.size; omega, fun e => ?_⟩
    rcases hat with q | q
    · exact hne (by rw [← q, e])
    · rw [q] at e; injection e with e; omega
  · rw [World.cell?_of_block (hg.block b' (by omega) hne), ((Below.refl u.heap.size u).alloc (Nat.le_refl _) o2).cell (p := ⟨b', o', none⟩) hbl]; exact hx) : P := h
theorem zHN {P : Prop} (h : P := by
  simp only [Bool.and_eq_true, decide_eq_true_eq] at hP
  have hbl := Ty.zR hx
  have hne : some b' ≠ v.ownBlock := fun e => hP.2 e.symm
  refine ⟨?_, ?_⟩
  · simp only [Bool.and_eq_true, decide_eq_true_eq]
    refine ⟨hP.1, fun e => ?_⟩
    rcases hat with q | q
    · exact hP.2 (by rw [← q, e])
    · rw [q] at e; injection e with e; have := hwu.size; omega
  · rw [World.cell?_of_block (hg.block b' (Nat.lt_of_lt_of_le hbl hwu.size) hne), hwu.cell (p := ⟨b', o', none⟩) hbl]; exact hx) : P := h
theorem zGC {P : Prop} (h : P := by
  have hbs := hbw.size
  have hzz := HZ.out
  have hbs2 := hb.size
  exact ⟨pd hdf, ps hsz, KX hx, K1 y0, K1 y1, K1 y2, K1 y3, K1 y4, (fun _ => pS hsz), K1 y6, hbw.trans (hb.mono hbw.size)⟩) : P := h
theorem zHm {P : Prop} (h : P := by
  obtain ⟨he, hb⟩ := hg
  refine .inl ?_
  refine ⟨.tuple #[], he, ?_⟩
  have hbs := hbw.size
  have hzz := HZ.out
  have hbs2 := hb.size
  exact ⟨pd hdf, ps hsz, KX hx, K1 y0, K1 y1, K1 y2, K1 y3, K1 y4, K1 y5, K1 y6, (fun _ => ⟨pS hsz, hq⟩), hbw.trans (hb.mono hbw.size)⟩) : P := h
theorem zHJ {P : Prop} (h : P := by
  rcases hg with ⟨hq, hg⟩ | ⟨hq, hg⟩
  · have HP : Ck.Post Q w R e u := by rw [HR.out, if_neg (zY (show rv.D.asO 4 a = false from hq))]; exact Ck.Gave.from hg (hfrom.out w' hbw)
    exact vH
  · obtain ⟨Gl', ml', cl', Gr', mr', cr', rfl, hl, hl2, hb⟩ := hg
    refine .inl ?_
    refine ⟨.tuple #[.agg #[.int .i8 (rv.D.asl 4 a).1, .slice Gl' ml' cl'], .agg #[.int .i8 (rv.D.asr 4 a).1, .slice Gr' mr' cr']], rfl, ?_⟩
    exact zHQ) : P := h
theorem zAR {P : Prop} (h : P := by
  rcases Nat.lt_or_ge i 7 with q | q
  · exact q
  · exact ve) : P := h
theorem zFE {P : Prop} (h : P := by
  have HP : Ck.Post Q w R e u := by rw [HR.out, hr1]; exact Ck.Gave.from hg (hfrom.out w' hbw)
  exact vH) : P := h
theorem zHD {P : Prop} (h : P := by
  intro v' w' hown hg
  have hfin := HFIN.out v' w' (by simpa using hown) hg
  obtain ⟨G, k, rfl, h1, h2⟩ := hfin
  have HF := k0_ (And.intro h1 h2)
  clear h1 h2 hown hg
  go_wp2_with fail
  go_ret
  exact ⟨G, k, rfl, HF.out.1, HF.out.2⟩) : P := h
theorem zFC {P : Prop} (h : P := by
  obtain ⟨g, rfl, -⟩ := hg
  go_wp2_with fail
  exact ⟨rfl, HP⟩) : P := h
theorem zHA {P : Prop} (h : P := by
  rcases hg with ⟨hq, hg⟩ | ⟨hq, hg⟩
  · have HP : Ck.Post Q w R e u := by rw [HR.out, if_neg (zY (show rv.D.ag a (Ck.TT h) = false from hq))]; exact Ck.Gave.from hg (hfrom.out w' hbw)
    exact vH
  · exact zHm) : P := h
theorem zG8 {P : Prop} (h : P := by
  have hz := HZ.out
  refine ⟨rfl, rfl, ⟨rfl, rfl, rfl, rfl, rfl, rfl⟩, FH, FH, FH, FH, FH, FH, FH, (Below.refl _ _).drew⟩) : P := h
theorem zG5 {P : Prop} (h : P := by
  exact (h5.trans (hwu.mono h5.size)).grown hg (Nat.le_trans h5.size hwu.size) fun q hq => (hlt q hq).1) : P := h
theorem zGv {P : Prop} (h : P := by
  go_wp2_with fail
  exact bodyPost_ret (v := .agg #[.int .i8 2, .slice none 0 0]) (by simp [results, Tryz.results131, go_sem, *]) rfl ⟨rfl, zL HB2.out (Nat.le_refl _) _ _⟩) : P := h
theorem zGl {P : Prop} (h : P := by
  have HP : Ck.Post Q w R e w2 := by rw [HR.out, if_neg (zY (show rv.D.asO 5 (Ck.TT h) = false from hq))]; exact Ck.Gave.from hg (hfrom.out w1 (Below.refl _ _))
  exact zFC) : P := h
theorem zGi {P : Prop} (h : P := by
  injection ha with ha
  subst ha
  refine ⟨X, 0, rfl, zD hX, fun j u hu => ?_⟩
  rw [Nat.zero_add]
  exact cell_of_heap hX j (by rw [← Array.getElem?_toList]; exact hu)) : P := h
theorem zGg {P : Prop} (h : P := by
  rw [← zBZ h1 h1'] at hrun
  unfold Oper.wp
  simp [execOp, hop, resolve, invoke, builtin, hs, hx, hrun, Result.andThen]
  exact hK' _ _ (hK v' w' r1 r2)) : P := h
theorem zFf {P : Prop} (h : P := by
  obtain ⟨g, rfl, -⟩ := hg
  clear hr1 r0 r1 r2 r3 r4 rl q0 q1 q2 q3 q4 q5 q6 q7 q8 q9 q10 ql
  go_wp2_with fail
  exact ⟨rfl, HP⟩) : P := h
theorem zEL {P : Prop} (h : P := by
  rcases Nat.lt_or_ge i 15 with q | q
  · exact q
  · exact ve) : P := h
end Go.Proofs.YtgjemmmbnpkamaaGreatDoor
namespace Go.Proofs.YtgjemmmbnpkamaaGreatDoor
namespace Ck
abbrev T2 := Int × Fo
abbrev Env := List (ByteArray × T2)
inductive R where
  | ok (a : T2)
  | bad (E p : Int) (x : ByteArray)
def e0 : ByteArray := ⟨#[]⟩
def fnd : Env → ByteArray → Option T2
  | [], _ => none
  | b :: l, x => match fnd l x with
    | some a => some a
    | none => if (b.1.toList == x.toList) = true then some b.2 else none
def mk2 (k : Int) (a b : T2) : T2 := (k, .node 0 0 a.1 a.2 (.node 0 0 b.1 b.2 .nil))
def hd0 : Hd := ⟨0, e0, e0, 0, 0, .nil, 0, .nil, 0, 0⟩
def k1 : Tm → Hd × Tm
  | .node h k _ => (h, k)
  | .nil => (hd0, .nil)
def k2 : Tm → Hd × Tm
  | .node _ _ r => k1 r
  | .nil => (hd0, .nil)
def k3 : Tm → Hd × Tm
  | .node _ _ r => k2 r
  | .nil => (hd0, .nil)
def TT (h : Hd) : T2 := (h.tk, h.tkids)
def UU (h : Hd) : T2 := (h.uk, h.ukids)
def chk (a : T2) : Nat := Ty.chk a.1 a.2
def ag (a b : T2) : Bool := Ty.agreeT a.1 a.2 b.1 b.2
def asO (k : Int) (a : T2) : Bool := Ty.asOk k a.1 a.2
def asl (k : Int) (a : T2) : T2 := Ty.asL k a.1 a.2
def asr (k : Int) (a : T2) : T2 := Ty.asR k a.1 a.2
def mt (a b : T2) : T2 := (Ty.mK a.1 b.1, Ty.mT a.1 a.2 b.1 b.2)
def lift (h : Hd) : R → R
  | .ok a => if chk a = 0 then .ok a else .bad (chk a) h.pos e0
  | .bad E p x => .bad E p x
def bnd (r : R) (f : T2 → R) : R := match r with
  | .ok a => f a
  | .bad E p x => .bad E p x
def fault (h : Hd) (E : Int) : R := .bad E h.pos e0
def meet (h : Hd) (a b : T2) : R := if ag a b = true then .ok (mt a b) else fault h 91
def opAns (s : ByteArray) : T2 := if (s.toList == [60] || s.toList == [61]) = true then (2, .nil) else (1, .nil)
def over (h : Hd) (a b c : T2) : R :=
  if h.kind = 6 then (if asO 3 a = true then (if ag b (asl 3 a) = true then .ok (asr 3 a) else fault h 91) else fault h 90)
  else if h.kind = 8 then (if ag a (2, .nil) = true then meet h b c else fault h 91)
  else if h.kind = 9 then .ok (mk2 4 a b)
  else if h.kind = 10 then (if asO 4 a = true then .ok (asl 4 a) else fault h 90)
  else if h.kind = 11 then (if asO 4 a = true then .ok (asr 4 a) else fault h 90)
  else if h.kind = 12 then (if asO 5 (TT h) = true then (if ag a (asl 5 (TT h)) = true then .ok (mk2 5 (asl 5 (TT h)) (asr 5 (TT h))) else fault h 91) else fault h 90)
  else if h.kind = 13 then (if asO 5 (TT h) = true then (if ag a (asr 5 (TT h)) = true then .ok (mk2 5 (asl 5 (TT h)) (asr 5 (TT h))) else fault h 91) else fault h 90)
  else if h.kind = 15 then (if ag a (1, .nil) = true then (if ag b (1, .nil) = true then .ok (opAns h.name) else fault h 91) else fault h 91)
  else (if ag a (TT h) = true then .ok (TT h) else fault h 91)
def raw (F : Hd → Tm → Env → R) (h : Hd) (kids : Tm) (l : Env) : R :=
  if h.kind = 0 then (match fnd l h.name with
    | some a => .ok a
    | none => .bad 41 h.pos h.name)
  else if h.kind = 1 then .ok (1, .nil)
  else if h.kind = 2 ∨ h.kind = 3 then .ok (2, .nil)
  else if h.kind = 4 then bnd (F (k1 kids).1 (k1 kids).2 (l ++ [(h.name, TT h)])) fun b => .ok (mk2 3 (TT h) b)
  else if h.kind = 5 then bnd (F (k1 kids).1 (k1 kids).2 (l ++ [(h.name, mk2 3 (TT h) (UU h)), (h.arg, TT h)])) fun b => if ag b (UU h) = true then .ok (mk2 3 (TT h) (UU h)) else fault h 91
  else if h.kind = 7 then bnd (F (k1 kids).1 (k1 kids).2 l) fun a => if ag a (TT h) = true then F (k2 kids).1 (k2 kids).2 (l ++ [(h.name, TT h)]) else fault h 91
  else if h.kind = 14 then bnd (F (k1 kids).1 (k1 kids).2 l) fun a => if asO 5 a = true then bnd (F (k2 kids).1 (k2 kids).2 (l ++ [(h.name, asl 5 a)])) fun b => bnd (F (k3 kids).1 (k3 kids).2 (l ++ [(h.arg, asr 5 a)])) fun c => meet h b c else fault h 90
  else if h.kind = 6 ∨ h.kind = 9 ∨ h.kind = 15 then bnd (F (k1 kids).1 (k1 kids).2 l) fun a => bnd (F (k2 kids).1 (k2 kids).2 l) fun b => over h a b (0, .nil)
  else if h.kind = 8 then bnd (F (k1 kids).1 (k1 kids).2 l) fun a => bnd (F (k2 kids).1 (k2 kids).2 l) fun b => bnd (F (k3 kids).1 (k3 kids).2 l) fun c => over h a b c
  else bnd (F (k1 kids).1 (k1 kids).2 l) fun a => over h a (0, .nil) (0, .nil)
def ty : Nat → Hd → Tm → Env → R
  | 0, h, _, _ => fault h 0
  | K + 1, h, kids, l => lift h (raw (ty K) h kids l)
theorem zBb (K : Nat) (h : Hd) (kids : Tm) (l : Env) : ty (K + 1) h kids l = lift h (raw (ty K) h kids l) := rfl
def castF : Tm → Bool
  | .nil => false
  | .node h kids r => (h.kind == 17) || castF kids || castF r
def castT (h : Hd) (kids : Tm) : Bool := (h.kind == 17) || castF kids
def tell (h : Hd) (kids : Tm) : R :=
  if Tm.chk h kids ≠ 0 then .bad (Tm.chk h kids) 0 e0 else if castT h kids = true then .bad 30 0 e0 else ty (Tm.nodes kids + 1) h kids []
theorem zBt {h : Hd} {r : R} {a : T2} (e : lift h r = .ok a) : r = .ok a ∧ chk a = 0 := by
  cases r with
  | ok b =>
    simp only [lift] at e
    split at e
    · injection e with e; subst e; exact ⟨rfl, by assumption⟩
    · cases e
  | bad _ _ _ => cases e
theorem zBc : ∀ {K : Nat} {h : Hd} {kids : Tm} {l : Env} {a : T2}, ty K h kids l = .ok a → chk a = 0
  | 0, _, _, _, _, e => by cases e
  | _ + 1, _, _, _, _, e => (zBt e).2
end Ck
set_option maxHeartbeats 2000000
set_option maxRecDepth 100000
open Go.RowKit
namespace Ck
def FltAt (w : World) (g : Nat) (E p : Int) (x : ByteArray) : Prop := w.heap[g]? = some (.cells #[.int .i64 E, .int .i64 p, .string x] 61 (0, 0))
def Gave (w : World) (E p : Int) (x : ByteArray) (e : Ending) (w' : World) : Prop :=
  ∃ g, e = .panicked [{ v := .iface 49 (.pointer (some ⟨g, 0, none⟩)), recovered := false }] ∧ FltAt w' g E p x ∧ w.heap.size ≤ g ∧ Below w.heap.size w w'
theorem Gave.from {w u w' : World} {E p : Int} {x : ByteArray} {e : Ending} (h : Gave u E p x e w') (hb : Below w.heap.size w u) : Gave w E p x e w' := by
  obtain ⟨g, h1, h2, h3, h4⟩ := h
  exact ⟨g, h1, h2, Nat.le_trans hb.size h3, hb.trans (h4.mono hb.size)⟩
def Cut (Q : Nat → Prop) (N M : Nat) (b : Nat) : Prop := (Q b ∧ b < N) ∨ M ≤ b
theorem Cut.in {Q : Nat → Prop} {N M S b : Nat} (hS : M ≤ S) (h : Cut (Cut Q N M) S S b) : Cut Q N M b := by
  rcases h with ⟨h, -⟩ | h
  · exact h
  · exact .inr (by omega)
theorem Cut.out {Q : Nat → Prop} {N M b : Nat} (hM : N ≤ M) (h : Cut Q N M b) : Cut Q N N b := by
  rcases h with h | h
  · exact .inl h
  · exact .inr (by omega)
theorem Cut.ne {Q : Nat → Prop} {N M b X : Nat} (h : Cut Q N M b) (h1 : N ≤ X) (h2 : X < M) : b ≠ X := by
  rcases h with h | h <;> omega
abbrev Ly (Q : Nat → Prop) (w : World) (a : T2) (G : Option Addr) (m c : Nat) : Prop := Lone Q w a.1 a.2 G m c
theorem Ly.later {Q : Nat → Prop} {w w' : World} {a : T2} {G : Option Addr} {m c : Nat} (h : Ly Q w a G m c) (hb : Below w.heap.size w w') : Ly Q w' a G m c :=
  Lone.to h fun _ _ _ hQ hc => ⟨hQ, by rw [hb.cell (p := ⟨_, _, none⟩) (Ty.zR hc)]; exact hc⟩
theorem Ly.weak {Q Q' : Nat → Prop} {w : World} {a : T2} {G : Option Addr} {m c : Nat} (h : Ly Q w a G m c) (hq : ∀ b, b < w.heap.size → Q b → Q' b) : Ly Q' w a G m c :=
  Lone.to h fun _ _ _ hQ hc => ⟨hq _ (Ty.zR hc) hQ, hc⟩
theorem Ly.set {Q : Nat → Prop} {w : World} {a : T2} {G : Option Addr} {m c : Nat} (h : Ly Q w a G m c) {X : Nat} (hX : ∀ b, Q b → b ≠ X) (o : Nat) (v : Value) : Ly Q (w.setCell ⟨X, o, none⟩ v) a G m c :=
  Lone.to h fun b o' v' hQ hc => ⟨hQ, by rw [World.cell?_setCell_other _ _ _ _ (fun e => hX b hQ (by injection e with e; exact e.symm))]; exact hc⟩
theorem Ly.is {Q : Nat → Prop} {w : World} {a : T2} {G : Option Addr} {m c : Nat} (h : Ly Q w a G m c) : Ty.Is w a.1 a.2 G m c := Lone.is h
theorem Ly.of {w : World} {a : T2} {G : Option Addr} {m c : Nat} (h : Ty.Is w a.1 a.2 G m c) : Ly (fun b => b < w.heap.size) w a G m c :=
  fun _ hu => (h.inP.to (P' := fun _ => True) fun b o v hP hc => ⟨trivial, hu b o v hP hc⟩).is
theorem Ly.zero (Q : Nat → Prop) (w : World) : Ly Q w (0, .nil) none 0 0 := fun _ _ => Ty.zEP _
def Gives (Q : Nat → Prop) (w : World) (a : T2) (e : Ending) (w' : World) : Prop :=
  ∃ G m c, e = .returned (.agg #[.int .i8 a.1, .slice G m c]) ∧ Ly (Cut Q w.heap.size w.heap.size) w' a G m c ∧ Below w.heap.size w w'
def Post (Q : Nat → Prop) (w : World) (r : R) (e : Ending) (w' : World) : Prop := match r with
  | .ok a => Gives Q w a e w'
  | .bad E p x => Gave w E p x e w'
def EFlat (Q : Nat → Prop) (w : World) : Env → List Value → Prop
  | [], [] => True
  | x :: l, a :: b :: c :: xs => (a = .string x.1 ∧ b = .int .i8 x.2.1 ∧ ∃ G m k, c = .slice G m k ∧ Ly Q w x.2 G m k) ∧ EFlat Q w l xs
  | _, _ => False
theorem EFlat.below {Q : Nat → Prop} {w w' : World} (hb : Below w.heap.size w w') : ∀ {l : Env} {xs : List Value}, EFlat Q w l xs → EFlat Q w' l xs
  | [], [], _ => trivial
  | _ :: _, _ :: _ :: _ :: _, ⟨⟨h1, h2, G, m, k, h3, h4⟩, h5⟩ => ⟨⟨h1, h2, G, m, k, h3, h4.later hb⟩, EFlat.below hb h5⟩
  | [], _ :: _, h => h.elim
  | _ :: _, [], h => h.elim
  | _ :: _, [_], h => h.elim
  | _ :: _, [_, _], h => h.elim
theorem EFlat.weak {Q Q' : Nat → Prop} {w : World} (hq : ∀ b, b < w.heap.size → Q b → Q' b) : ∀ {l : Env} {xs : List Value}, EFlat Q w l xs → EFlat Q' w l xs
  | [], [], _ => trivial
  | _ :: _, _ :: _ :: _ :: _, ⟨⟨h1, h2, G, m, k, h3, h4⟩, h5⟩ => ⟨⟨h1, h2, G, m, k, h3, h4.weak hq⟩, EFlat.weak hq h5⟩
  | [], _ :: _, h => h.elim
  | _ :: _, [], h => h.elim
  | _ :: _, [_], h => h.elim
  | _ :: _, [_, _], h => h.elim
theorem EFlat.app {Q : Nat → Prop} {w : World} : ∀ {l : Env} {xs : List Value} {l' : Env} {xs' : List Value}, EFlat Q w l xs → EFlat Q w l' xs' → EFlat Q w (l ++ l') (xs ++ xs')
  | [], [], _, _, _, h => h
  | _ :: _, _ :: _ :: _ :: _, _, _, ⟨h1, h5⟩, h => ⟨h1, EFlat.app h5 h⟩
  | [], _ :: _, _, _, h, _ => h.elim
  | _ :: _, [], _, _, h, _ => h.elim
  | _ :: _, [_], _, _, h, _ => h.elim
  | _ :: _, [_, _], _, _, h, _ => h.elim
theorem EFlat.len {Q : Nat → Prop} {w : World} : ∀ {l : Env} {xs : List Value}, EFlat Q w l xs → xs.length = l.length * 3
  | [], [], _ => rfl
  | _ :: _, _ :: _ :: _ :: _, ⟨_, h5⟩ => by have := EFlat.len h5; simp only [List.length_cons]; omega
  | [], _ :: _, h => h.elim
  | _ :: _, [], h => h.elim
  | _ :: _, [_], h => h.elim
  | _ :: _, [_, _], h => h.elim
theorem EFlat.at {Q : Nat → Prop} {w : World} : ∀ {l : Env} {xs : List Value}, EFlat Q w l xs → ∀ (i : Nat) (x : ByteArray × T2), l[i]? = some x → xs[i * 3]? = some (.string x.1) ∧ xs[i * 3 + 1]? = some (.int .i8 x.2.1) ∧ ∃ G m k, xs[i * 3 + 2]? = some (.slice G m k) ∧ Ly Q w x.2 G m k
  | [], [], _, i, x, h => by simp at h
  | y :: _, _ :: _ :: _ :: _, ⟨⟨h1, h2, G, m, k, h3, h4⟩, h5⟩, i, x, h => by
    cases i with
    | zero =>
      rw [List.getElem?_cons_zero] at h
      injection h with h; subst h
      exact ⟨by simp [h1], by simp [h2], G, m, k, by simp [h3], h4⟩
    | succ i =>
      rw [List.getElem?_cons_succ] at h
      have q := EFlat.at h5 i x h
      rw [show (i + 1) * 3 = i * 3 + 3 by omega, show i * 3 + 3 + 1 = i * 3 + 1 + 3 by omega, show i * 3 + 3 + 2 = i * 3 + 2 + 3 by omega]
      simpa using q
  | [], _ :: _, h, _, _, _ => h.elim
  | _ :: _, [], h, _, _, _ => h.elim
  | _ :: _, [_], h, _, _, _ => h.elim
  | _ :: _, [_, _], h, _, _, _ => h.elim
theorem EFlat.one {Q : Nat → Prop} {w : World} : ∀ {l : Env} {xs : List Value}, EFlat Q w l xs → ∀ u ∈ xs, u.oneCell' = true
  | [], [], _, u, hu => by cases hu
  | _ :: _, _ :: _ :: _ :: _, ⟨⟨h1, h2, G, m, k, h3, _⟩, h5⟩, u, hu => by
    simp only [List.mem_cons] at hu
    rcases hu with rfl | rfl | rfl | hu
    · rw [h1]; rfl
    · rw [h2]; rfl
    · rw [h3]; rfl
    · exact EFlat.one h5 u hu
  | [], _ :: _, h, _, _ => h.elim
  | _ :: _, [], h, _, _ => h.elim
  | _ :: _, [_], h, _, _ => h.elim
  | _ :: _, [_, _], h, _, _ => h.elim
structure EAt (Q : Nat → Prop) (w : World) (l : Env) (A : Option Addr) (n c : Nat) : Prop where
  n_eq : n = l.length
  n_le : n ≤ c
  c_le : c ≤ maxLen
  nil : A = none → n = 0 ∧ c = 0
  row : ∃ xs, EFlat Q w l xs ∧ ∀ a, A = some a → ∃ b o, a = ⟨b, o, none⟩ ∧ b < w.heap.size ∧ ∀ j u, xs[j]? = some u → w.cell? ⟨b, o + j, none⟩ = some u
theorem EAt.empty (Q : Nat → Prop) (w : World) : EAt Q w [] none 0 0 := ⟨rfl, Nat.le_refl _, Nat.zero_le _, fun _ => ⟨rfl, rfl⟩, [], trivial, fun _ h => by cases h⟩
theorem EAt.weak {Q Q' : Nat → Prop} {w : World} {l : Env} {A : Option Addr} {n c : Nat} (h : EAt Q w l A n c) (hq : ∀ b, b < w.heap.size → Q b → Q' b) : EAt Q' w l A n c := by
  obtain ⟨h1, h2, h3, h4, xs, h5, h6⟩ := h
  exact ⟨h1, h2, h3, h4, xs, h5.weak hq, h6⟩
theorem EAt.below {Q : Nat → Prop} {w w' : World} {l : Env} {A : Option Addr} {n c : Nat} (h : EAt Q w l A n c) (hb : Below w.heap.size w w') : EAt Q w' l A n c := by
  obtain ⟨h1, h2, h3, h4, xs, h5, h6⟩ := h
  refine ⟨h1, h2, h3, h4, xs, h5.below hb, fun a ha => ?_⟩
  obtain ⟨b, o, e, hl, hc⟩ := h6 a ha
  exact ⟨b, o, e, Nat.lt_of_lt_of_le hl hb.size, fun j u hu => by rw [hb.cell (p := ⟨b, o + j, none⟩) hl]; exact hc j u hu⟩
theorem EAt.at {Q : Nat → Prop} {w : World} {l : Env} {A : Option Addr} {n c : Nat} (h : EAt Q w l A n c) {i : Nat} {x : ByteArray × T2} (hx : l[i]? = some x) : ∃ b o G m k, A = some ⟨b, o, none⟩ ∧ w.cell? ⟨b, o + i * 3, none⟩ = some (.string x.1) ∧ w.cell? ⟨b, o + i * 3 + 1, none⟩ = some (.int .i8 x.2.1) ∧ w.cell? ⟨b, o + i * 3 + 2, none⟩ = some (.slice G m k) ∧ Ly Q w x.2 G m k := by
  obtain ⟨h1, h2, h3, h4, xs, h5, h6⟩ := h
  cases A with
  | none =>
    have := (h4 rfl).1
    have hl : i < l.length := by
      rcases Nat.lt_or_ge i l.length with q | q
      · exact q
      · rw [List.getElem?_eq_none q] at hx; cases hx
    omega
  | some a =>
    obtain ⟨b, o, rfl, hl, hc⟩ := h6 a rfl
    obtain ⟨q1, q2, G, m, k, q3, q4⟩ := h5.at i x hx
    exact ⟨b, o, G, m, k, rfl, hc _ _ q1, by have := hc _ _ q2; rwa [show o + (i * 3 + 1) = o + i * 3 + 1 by omega] at this, by have := hc _ _ q3; rwa [show o + (i * 3 + 2) = o + i * 3 + 2 by omega] at this, q4⟩
theorem kl_ {Q : Nat → Prop} {w w' : World} {a : T2} {G : Option Addr} {m c : Nat} (h : Hid (Ly Q w a G m c)) (hb : Below w.heap.size w w') : Hid (Ly Q w' a G m c) := Lib.hid (h.out.later hb)
end Ck
theorem jU (h : Hd) (p : Pl) (E : Int) (w : World) : Calls Tryz.prog 67 #[.agg (tC_ h p), .int .i64 E] w (Ck.Gave w E h.pos Ck.e0) := by
  try unfold tC_
  have hb1 : Below w.heap.size w (w.alloc (.cells (tC_ h p) 28)) := (Below.refl _ _).alloc (Nat.le_refl _) _
  have hb2 := hb1.alloc hb1.size (.cells #[.int .i64 E, .int .i64 h.pos, .string Ck.e0] 61)
  obtain ⟨q0, q1, q2, q3, q4, q5, q6, q7, q8, q9, q10, ql⟩ := zN (zF w (.cells (tC_ h p) 28))
  have HP := k0_ (show Ck.Gave w E h.pos Ck.e0 (.panicked [{ v := .iface 49 (.pointer (some ⟨w.heap.size + 1, 0, none⟩)), recovered := false }]) _ from ⟨w.heap.size + 1, rfl, qP w _ _, by omega, hb2⟩)
  clear hb1 hb2
  go_enter Tryz.func67, Tryz.ntmps67
  go_wp2_with fail
  exact ⟨rfl, HP.out⟩
theorem qf (k : Int) (A : Option Addr) (n c : Nat) (w : World) : Calls Tryz.prog 98 #[.int .i8 k, .slice A n c] w fun e w' => e = .returned (.agg #[.int .i8 k, .slice A n c]) ∧ Below w.heap.size w w' := by
  have HB := k0_ ((Below.refl w.heap.size w).alloc (Nat.le_refl _) (.cells #[.int .i8 k, .slice A n c] 25))
  go_enter Tryz.func98, Tryz.ntmps98
  go_wp2_with fail
  refine bodyPost_ret (v := .agg #[.int .i8 k, .slice A n c]) (by simp [results, Tryz.results98, go_sem, *]) rfl ⟨rfl, HB.out⟩
theorem qj (s : ByteArray) (k : Int) (A : Option Addr) (n c : Nat) (w : World) : Calls Tryz.prog 100 #[.string s, .agg #[.int .i8 k, .slice A n c]] w fun e w' => e = .returned (.agg #[.string s, .int .i8 k, .slice A n c]) ∧ Below w.heap.size w w' := by
  have HB := k0_ (((Below.refl w.heap.size w).alloc (Nat.le_refl _) (.cells #[.int .i8 k, .slice A n c] 25)).alloc (by simp) (.cells #[.string s, .int .i8 k, .slice A n c] 168))
  go_enter Tryz.func100, Tryz.ntmps100
  go_wp2_with fail
  refine bodyPost_ret (v := .agg #[.string s, .int .i8 k, .slice A n c]) (by simp [results, Tryz.results100, go_sem, *]) rfl ⟨rfl, HB.out⟩
theorem zBZ {P : Program} {t t' e : TypeId} (ht : P.underlying t = some (.slice e)) (ht' : P.underlying t' = some (.slice e)) (ty : TypeId) (args : Array Value) (w : World) : (Builtin.append_ #[t, t'] ty args).run P w = (Builtin.append_ #[t, t] ty args).run P w := by
  simp only [Builtin.append_, List.getElem?_toArray, List.getElem?_cons_zero, List.getElem?_cons_succ]
  cases h0 : args[0]? with
  | none => rfl
  | some s =>
    cases h1 : args[1]? with
    | none => rfl
    | some x => cases s <;> simp [run_underlying ht, run_underlying ht']
theorem qo {P : Program} (w : World) {ops : Array Oper} {rest : List Oper} {o : Oper} {a : Act} {Q : Exit → Act → World → Prop}
    (hg : o.guard = none) (s x : Operand) (t t' : TypeId) (hop : o.op = Op.call { callee := Callee.builtin Builtin.append, args := #[s, x], argTypes := #[t, t'] })
    (e : TypeId) (i : TypeInfo) (z : Value) (size bytes : Nat) (h1 : P.underlying t = some (.slice e)) (h1' : P.underlying t' = some (.slice e)) (h2 : P.info? e = some i) (h3 : i.zero = some z) (h4 : i.size = size) (h5 : i.bytes = bytes) (h6 : z.cells.size = size) (h7 : 0 < size)
    (ao : Option Addr) (n cap : Nat) (olds : List Value) (hs : a.eval s = .slice ao n cap) (hnone : ao = none → n = 0 ∧ cap = 0) (hlo : olds.length = n * size) (holds : ∀ b, ao = some b → ∀ j u, olds[j]? = some u → w.cell? (b.add j) = some u)
    (ad : Addr) (m c : Nat) (news : List Value) (hx : a.eval x = .slice (some ad) m c) (hn : news.length = m * size) (hc : ∀ j u, news[j]? = some u → w.cell? (ad.add j) = some u) (h1c : ∀ u ∈ news, u.oneCell' = true)
    (hfull : cap < n + m) (b1 : n + m ≤ maxLen) (b2 : (n + m) * bytes ≤ 140737488355328)
    (hK : ∀ v' w', w'.ownsRow w.heap.size e size v' (n + m) (olds ++ news) → w.grownBy w' none → wpList P ops Q rest (a.put o.dst v') w') :
    wpList P ops Q (o :: rest) a w := by
  refine wpList_plain hg fun K hK' => ?_
  cases ao with
  | some b =>
    obtain ⟨v', w', hrun, r1, r2⟩ := run_append_arg_grows (P := P) w t o.type e i z size bytes h1 h2 h3 h4 h5 h6 h7 b n cap olds hlo (holds b rfl) ad m c news hn hc hfull b1 b2
    exact zGg
  | none =>
    obtain ⟨rfl, rfl⟩ := hnone rfl
    obtain rfl : olds = [] := List.eq_nil_of_length_eq_zero (by simpa using hlo)
    obtain ⟨v', w', hrun, r1, r2, _⟩ := run_append_own (P := P) w w.heap.size t o.type e i z size bytes h1 h2 h3 h4 h5 h6 h7 (.slice none 0 0) 0 [] (World.ownsRow_nil w _ e size) ad m c news hn hc h1c b1 b2 (Nat.le_refl _)
    exact zGg
theorem uC : (Tryz.prog.info? 168).map (fun i => (i.zero, i.size, i.bytes)) = some (some (.agg #[.string ⟨#[]⟩, .int .i8 0, .slice none 0 0]), 3, 48) := by kernel_rfl
theorem Ck.EAt.end {Q : Nat → Prop} {w w1 : World} {l : Ck.Env} {xs : List Value} {base : Nat} {v : Value} {n : Nat} (hn : n = l.length) (hn0 : 0 < n) (hE : Ck.EFlat Q w l xs) (hw : Below w.heap.size w w1) (hown : w1.ownsRow base 168 3 v n xs) :
    ∃ G k, v = .slice G n k ∧ Ck.EAt Q w1 l G n k := by
  rcases hown.2 with ⟨-, h0⟩ | ⟨g, cap, cur, hv, -, hg, h1, h2, -, -⟩
  · omega
  · refine ⟨some ⟨g, 0, none⟩, cap, hv, hn, h1, h2, (fun h => by cases h), xs, hE.below hw, fun a ha => ?_⟩
    injection ha with ha
    subst ha
    refine ⟨g, 0, rfl, zD hg, fun j u hu => ?_⟩
    have := hown.cells (g := g) (by rw [hv]; rfl) j u hu
    rw [show (⟨g, 0, none⟩ : Addr).add j = ⟨g, j, none⟩ by unfold Addr.add; by_cases h : j = 0 <;> simp [h]] at this
    rw [Nat.zero_add]; exact this
theorem jH (Q : Nat → Prop) (l l' : Ck.Env) (A : Option Addr) (n c : Nat) (Y m c' : Nat) (w : World) (hE : Ck.EAt Q w l A n c) (hE' : Ck.EAt Q w l' (some ⟨Y, 0, none⟩) m c') (hm : 0 < m) (hb : n + m ≤ 20000) :
    Calls Tryz.prog 99 #[.slice A n c, .slice (some ⟨Y, 0, none⟩) m c'] w fun e w' => ∃ G k, e = .returned (.slice G (n + m) k) ∧ Ck.EAt Q w' (l ++ l') G (n + m) k ∧ Below w.heap.size w w' := by
  obtain ⟨e1, e2, e3, e4, xs, e5, e6⟩ := hE
  obtain ⟨d1, d2, d3, -, ys, d5, d6⟩ := hE'
  obtain ⟨b', o', he, hlt', hc'⟩ := d6 _ rfl
  injection he with he1 he2 he3
  subst he1 he2
  obtain ⟨i0, hi, hz1, hz2, hz3⟩ := info_parts uC
  have hlx := e5.len
  have hly := d5.len
  rw [← e1] at hlx
  rw [← d1] at hly
  have hcy : ∀ j u, ys[j]? = some u → w.cell? ((⟨Y, 0, none⟩ : Addr).add j) = some u := fun j u hu => by
    have : (⟨Y, 0, none⟩ : Addr).add j = ⟨Y, 0 + j, none⟩ := by unfold Addr.add; by_cases h : j = 0 <;> simp [h]
    rw [this]; exact hc' j u hu
  have h1c := d5.one
  have HFIN := k0_ (fun (v : Value) (w1 : World) (hown : w1.ownsRow w.heap.size 168 3 v (n + m) (xs ++ ys)) (hg : w.grownBy w1 none) => (show ∃ G k, v = .slice G (n + m) k ∧ Ck.EAt Q w1 (l ++ l') G (n + m) k ∧ Below w.heap.size w w1 by
    have hbw : Below w.heap.size w w1 := (Below.refl _ _).grown hg (Nat.le_refl _) fun k hk => by cases hk
    obtain ⟨G, k, h1, h2⟩ := Ck.EAt.end (by rw [List.length_append, ← e1, ← d1]) (by omega) (e5.app d5) hbw hown
    exact ⟨G, k, h1, h2, hbw⟩))
  cases A with
  | none =>
    obtain ⟨h0, h00⟩ := e4 rfl
    clear e1 d1 e5 d5 e6 hc' e4 d6
    subst h0 h00
    go_enter Tryz.func99, Tryz.ntmps99
    go_wp2_with (first | (at_builtin; refine qo _ rfl (.tmp 10) (.tmp 11) 116 115 rfl 168 i0 (.agg #[.string ⟨#[]⟩, .int .i8 0, .slice none 0 0]) 3 48 Tryz.underlying116 Tryz.underlying115 hi hz1 hz2 hz3 rfl (by decide) none 0 0 xs rfl (fun _ => ⟨rfl, rfl⟩) hlx (fun _ h => by cases h) ⟨Y, 0, none⟩ m c' ys rfl hly hcy h1c ?_ ?_ ?_ ?_))
    · unfold maxLen; omega
    · omega
    · exact zHD
  | some a =>
    obtain ⟨b, o, rfl, hbl, hcx0⟩ := e6 a rfl
    have hcx : ∀ b', some (⟨b, o, none⟩ : Addr) = some b' → ∀ j u, xs[j]? = some u → w.cell? (b'.add j) = some u := fun b' hb' j u hu => by
      injection hb' with hb'
      subst hb'
      have : (⟨b, o, none⟩ : Addr).add j = ⟨b, o + j, none⟩ := by unfold Addr.add; by_cases h : j = 0 <;> simp [h]
      rw [this]; exact hcx0 j u hu
    have hnc : (n : Int) ≤ c := by omega
    have hnn : (0 : Int) ≤ n := by omega
    clear e1 d1 e5 d5 e6 hc' e4 d6 hcx0
    go_enter Tryz.func99, Tryz.ntmps99
    go_wp2_with (first | (at_builtin; refine qo _ rfl (.tmp 10) (.tmp 11) 116 115 rfl 168 i0 (.agg #[.string ⟨#[]⟩, .int .i8 0, .slice none 0 0]) 3 48 Tryz.underlying116 Tryz.underlying115 hi hz1 hz2 hz3 rfl (by decide) (some ⟨b, o, none⟩) n n xs rfl (fun h => by cases h) hlx hcx ⟨Y, 0, none⟩ m c' ys rfl hly hcy h1c ?_ ?_ ?_ ?_))
    · unfold maxLen; omega
    · omega
    · exact zHD
end Go.Proofs.YtgjemmmbnpkamaaGreatDoor
