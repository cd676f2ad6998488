import Derived.Test.YtgjemmmbnpkamaaGreatDoorM26
import Derived.Test.YtgjemmmbnpkamaaGreatDoorM33
namespace Go.Proofs.YtgjemmmbnpkamaaGreatDoor
set_option maxHeartbeats 1000000
set_option maxRecDepth 100000
open Go.RowKit
theorem zAb (Q : Nat → Prop) (kd : Int) (a : Ck.T2) (A : Option Addr) (n c : Nat) (w : World) (hkd : 3 ≤ kd ∧ kd ≤ 5) (hL : Ck.Ly Q w a A n c) (hok : Ty.okT a.1 a.2 = true) :
    Calls Tryz.prog 27 #[.int .i8 kd, .agg #[.int .i8 a.1, .slice A n c]] w (Cg.AsPost Q w (St.ops.asO kd a) (St.ops.asl kd a) (St.ops.asr kd a)) := by
  by_cases hk : a.1 = kd
  · obtain ⟨k, kids⟩ := a
    dsimp only at hk hok ⊢
    subst hk
    obtain ⟨a1, a2, p1, f1, a3, a4, p2, f2, rfl, o1, o2⟩ := Ty.zFj hok hkd.1
    have hn := hL.is.n_eq
    simp only [Ty.len] at hn
    subst hn
    obtain ⟨bb, oo, B1, c1, B2, c2, rfl, hQ, x0, x1, x2, x3, L1, L2⟩ := hL.parts
    have e1 : St.ops.asO k (k, .node a1 a2 p1 f1 (.node a3 a4 p2 f2 .nil)) = true := by show (k == k) = true; simp
    have e2 : St.ops.asl k (k, .node a1 a2 p1 f1 (.node a3 a4 p2 f2 .nil)) = (p1, f1) := by show (if k = k then _ else _) = _; rw [if_pos rfl]; rfl
    have e3 : St.ops.asr k (k, .node a1 a2 p1 f1 (.node a3 a4 p2 f2 .nil)) = (p2, f2) := by show (if k = k then _ else _) = _; rw [if_pos rfl]; rfl
    rw [e1, e2, e3]
    have hB3 := jm w (.cells #[.int .i8 k, .slice (some ⟨bb, oo, none⟩) 2 c] 25) (.cells #[.int .i8 0, .slice none 0 0] 25) (.cells #[.int .i8 0, .slice none 0 0] 25)
    obtain ⟨h0, h1, h2⟩ := vB w (.cells #[.int .i8 k, .slice (some ⟨bb, oo, none⟩) 2 c] 25) (.cells #[.int .i8 0, .slice none 0 0] 25) (.cells #[.int .i8 0, .slice none 0 0] 25)
    have HL1 := k0_ (((L1.weak (Q' := Ck.Cut Q w.heap.size (w.heap.size + 3)) (fun b hl hq => .inl ⟨hq, hl⟩)).later hB3))
    have HL2 := k0_ (((L2.weak (Q' := Ck.Cut Q w.heap.size (w.heap.size + 3)) (fun b hl hq => .inl ⟨hq, hl⟩)).later hB3))
    have x0 := zB x0 hB3
    have x1 := zB x1 hB3
    have x2 := zB x2 hB3
    have x3 := zB x3 hB3
    have HB3 := k0_ hB3
    clear e1 e2 e3 hok hL hQ L1 L2 hB3 o1 o2 hkd
    generalize Ty.len f1 = m1 at *
    generalize Ty.len f2 = m2 at *
    have ek : (k != k) = false := by simp
    go_enter Tryz.func27, Tryz.ntmps27
    go_upto_region 1 with fail
    generalize ((w.alloc (.cells #[.int .i8 k, .slice (some ⟨bb, oo, none⟩) 2 c] 25)).alloc (.cells #[.int .i8 0, .slice none 0 0] 25)).alloc (.cells #[.int .i8 0, .slice none 0 0] 25) = w1 at *
    obtain ⟨r0, r1, -, -, rl⟩ := zM h0
    have H1 := k0_ h1
    have H2 := k0_ h2
    obtain ⟨y0, y1, y2, y3, yl⟩ := zM h1
    obtain ⟨z0, z1, z2, z3, zl⟩ := zM h2
    clear h0 h1 h2
    go_wp2_with fail
    go_region
    have Z4 := k0_ (zi (zT H1.out (.int .i8 p1) (.slice B1 m1 c1)) (show w.heap.size + 1 + 1 ≠ w.heap.size + 1 by omega) (.int .i8 p2) (.slice B2 m2 c2))
    have Z5 := k0_ (zT (zi H2.out (show w.heap.size + 1 ≠ w.heap.size + 1 + 1 by omega) (.int .i8 p1) (.slice B1 m1 c1)) (.int .i8 p2) (.slice B2 m2 c2))
    have HBF := k0_ (zL (zL HB3.out (show w.heap.size ≤ w.heap.size + 1 by omega) (.int .i8 p1) (.slice B1 m1 c1)) (show w.heap.size ≤ w.heap.size + 1 + 1 by omega) (.int .i8 p2) (.slice B2 m2 c2))
    have HJ1 := k0_ ((HL1.out.set2 (X := w.heap.size + 1) (fun b h => h.ne (by omega) (by omega)) (.int .i8 p1) (.slice B1 m1 c1)).set2 (X := w.heap.size + 1 + 1) (fun b h => h.ne (by omega) (by omega)) (.int .i8 p2) (.slice B2 m2 c2))
    have HJ2 := k0_ ((HL2.out.set2 (X := w.heap.size + 1) (fun b h => h.ne (by omega) (by omega)) (.int .i8 p1) (.slice B1 m1 c1)).set2 (X := w.heap.size + 1 + 1) (fun b h => h.ne (by omega) (by omega)) (.int .i8 p2) (.slice B2 m2 c2))
    generalize ((((w1.setCell ⟨w.heap.size + 1, 0, none⟩ (.int .i8 p1)).setCell ⟨w.heap.size + 1, 1, none⟩ (.slice B1 m1 c1)).setCell ⟨w.heap.size + 1 + 1, 0, none⟩ (.int .i8 p2)).setCell ⟨w.heap.size + 1 + 1, 1, none⟩ (.slice B2 m2 c2)) = w6 at *
    have K4 : Hid (w6.drew.heap[w.heap.size + 1]? = some (.cells #[.int .i8 p1, .slice B1 m1 c1] 25 (0, 0))) := k0_ Z4.out
    have K5 : Hid (w6.drew.heap[w.heap.size + 1 + 1]? = some (.cells #[.int .i8 p2, .slice B2 m2 c2] 25 (0, 0))) := k0_ Z5.out
    have HJ1 := k0_ (HJ1.out.later (Below.refl _ _).drew)
    have HJ2 := k0_ (HJ2.out.later (Below.refl _ _).drew)
    have HBF := k0_ (HBF.out.drew)
    clear Z4 Z5 H1 H2 HL1 HL2 HB3 r0 r1 rl x0 x1 x2 x3 y0 y1 y2 y3 yl z0 z1 z2 z3 zl
    generalize w6.drew = w7 at *
    obtain ⟨k0, k1, -, -, -⟩ := zM K4.out
    obtain ⟨k2, k3, -, -, -⟩ := zM K5.out
    go_wp2_with fail
    refine bodyPost_ret (v := .tuple #[.agg #[.int .i8 p1, .slice B1 m1 c1], .agg #[.int .i8 p2, .slice B2 m2 c2], .bool true]) (by simp [results, Tryz.results27, go_sem, k0, k1, k2, k3]) rfl ⟨B1, m1, c1, B2, m2, c2, rfl, HJ1.out.weak (fun b _ h => h.out (by omega)), HJ2.out.weak (fun b _ h => h.out (by omega)), HBF.out⟩
  · have e1 : St.ops.asO kd a = false := by show (a.1 == kd) = false; simpa using hk
    have e2 : St.ops.asl kd a = (0, .nil) := by show (if a.1 = kd then _ else _) = _; rw [if_neg hk]
    have e3 : St.ops.asr kd a = (0, .nil) := by show (if a.1 = kd then _ else _) = _; rw [if_neg hk]
    rw [e1, e2, e3]
    have hB3 := jm w (.cells #[.int .i8 a.1, .slice A n c] 25) (.cells #[.int .i8 0, .slice none 0 0] 25) (.cells #[.int .i8 0, .slice none 0 0] 25)
    obtain ⟨h0, h1, h2⟩ := vB w (.cells #[.int .i8 a.1, .slice A n c] 25) (.cells #[.int .i8 0, .slice none 0 0] 25) (.cells #[.int .i8 0, .slice none 0 0] 25)
    have HB3 := k0_ hB3
    have ek : (a.1 != kd) = true := by simpa using hk
    clear e1 e2 e3 hok hL hB3 hkd hk
    go_enter Tryz.func27, Tryz.ntmps27
    go_upto_region 1 with fail
    generalize ((w.alloc (.cells #[.int .i8 a.1, .slice A n c] 25)).alloc (.cells #[.int .i8 0, .slice none 0 0] 25)).alloc (.cells #[.int .i8 0, .slice none 0 0] 25) = w1 at *
    obtain ⟨r0, r1, -, -, rl⟩ := zM h0
    have H1 := k0_ h1
    have H2 := k0_ h2
    obtain ⟨y0, y1, y2, y3, yl⟩ := zM h1
    obtain ⟨z0, z1, z2, z3, zl⟩ := zM h2
    clear h0 h1 h2
    go_wp2_with fail
    go_region
    have Z4 := k0_ (zi (zT H1.out (.int .i8 0) (.slice none 0 0)) (show w.heap.size + 1 + 1 ≠ w.heap.size + 1 by omega) (.int .i8 0) (.slice none 0 0))
    have Z5 := k0_ (zT (zi H2.out (show w.heap.size + 1 ≠ w.heap.size + 1 + 1 by omega) (.int .i8 0) (.slice none 0 0)) (.int .i8 0) (.slice none 0 0))
    have HBF := k0_ (zL (zL HB3.out (show w.heap.size ≤ w.heap.size + 1 by omega) (.int .i8 0) (.slice none 0 0)) (show w.heap.size ≤ w.heap.size + 1 + 1 by omega) (.int .i8 0) (.slice none 0 0))
    generalize ((((w1.setCell ⟨w.heap.size + 1, 0, none⟩ (.int .i8 0)).setCell ⟨w.heap.size + 1, 1, none⟩ (.slice none 0 0)).setCell ⟨w.heap.size + 1 + 1, 0, none⟩ (.int .i8 0)).setCell ⟨w.heap.size + 1 + 1, 1, none⟩ (.slice none 0 0)) = w6 at *
    have K4 : Hid (w6.drew.heap[w.heap.size + 1]? = some (.cells #[.int .i8 0, .slice none 0 0] 25 (0, 0))) := k0_ Z4.out
    have K5 : Hid (w6.drew.heap[w.heap.size + 1 + 1]? = some (.cells #[.int .i8 0, .slice none 0 0] 25 (0, 0))) := k0_ Z5.out
    have HBF := k0_ (HBF.out.drew)
    clear Z4 Z5 H1 H2 HB3 r0 r1 rl y0 y1 y2 y3 yl z0 z1 z2 z3 zl
    generalize w6.drew = w7 at *
    obtain ⟨k0, k1, -, -, -⟩ := zM K4.out
    obtain ⟨k2, k3, -, -, -⟩ := zM K5.out
    go_wp2_with fail
    refine bodyPost_ret (v := .tuple #[.agg #[.int .i8 0, .slice none 0 0], .agg #[.int .i8 0, .slice none 0 0], .bool false]) (by simp [results, Tryz.results27, go_sem, k0, k1, k2, k3]) rfl ⟨none, 0, 0, none, 0, 0, rfl, Ck.Ly.zero _ _, Ck.Ly.zero _ _, HBF.out⟩
theorem zCD (Q : Nat → Prop) (a : Ck.T2) (A : Option Addr) (n c : Nat) (b : Ck.T2) (A' : Option Addr) (n' c' : Nat) (w : World) (hL : Ck.Ly Q w a A n c) :
    Calls Tryz.prog 28 #[.agg #[.int .i8 a.1, .slice A n c], .agg #[.int .i8 b.1, .slice A' n' c']] w (Ck.Gives Q w a) := by
  have hB3 := jm w (.cells #[.int .i8 a.1, .slice A n c] 25) (.cells #[.int .i8 b.1, .slice A' n' c'] 25) (.cells #[.int .i8 a.1, .slice A n c] 25)
  have HL := k0_ ((hL.weak (Q' := Ck.Cut Q w.heap.size w.heap.size) (fun b hl hq => .inl ⟨hq, hl⟩)).later hB3)
  have HB3 := k0_ hB3
  clear hL hB3
  go_enter Tryz.func28, Tryz.ntmps28
  go_wp2_with fail
  refine bodyPost_ret (v := .agg #[.int .i8 a.1, .slice A n c]) (by simp [results, Tryz.results28, go_sem, *]) rfl ⟨A, n, c, rfl, HL.out, HB3.out⟩
theorem kS (f : FuncId) (cp : Array Value) (w : World) : Calls Tryz.prog 12 #[.func (Fn.func f) #[] cp] w fun e w' => e = .returned (.agg #[.func (Fn.func f) #[] cp, .func (Fn.func 26) #[] #[], .func (Fn.func 27) #[] #[], .func (Fn.func 28) #[] #[], .nilFunc]) ∧ Below w.heap.size w w' := by
  have HB := k0_ (za w (.cells #[.func (Fn.func f) #[] cp, .func (Fn.func 26) #[] #[], .func (Fn.func 27) #[] #[], .func (Fn.func 28) #[] #[], .nilFunc] 56))
  go_enter Tryz.func12, Tryz.ntmps12
  go_wp2_with fail
  refine bodyPost_ret (v := .agg #[.func (Fn.func f) #[] cp, .func (Fn.func 26) #[] #[], .func (Fn.func 27) #[] #[], .func (Fn.func 28) #[] #[], .nilFunc]) (by simp [results, Tryz.results12, go_sem, *]) rfl ⟨rfl, HB.out⟩
set_option maxHeartbeats 1000000
set_option maxRecDepth 100000
open Go.RowKit
theorem kV (h : Hd) (kids : Tm) (p : Pl) (w : World) (hIs : Tm.Is w h kids p) (hG : TGlob w) :
    Calls Tryz.prog 11 #[.agg (tC_ h p)] w (Cg.RefPost w (St.ref h kids)) := by
  try unfold tC_
  have hB1 := za w (.cells (tC_ h p) 28)
  have h0 := zF w (.cells (tC_ h p) 28)
  have CR := k0_ (fun (gK : Nat) (W : World) (hb : Below (w.alloc (.cells (tC_ h p) 28)).heap.size (w.alloc (.cells (tC_ h p) 28)) W) (hk : W.heap[gK]? = some (.cells #[.int .i8 17] 22 (0, 0))) => xG 17 gK h kids p W (hIs.below (hB1.trans (hb.mono hB1.size))) (hG.below (hB1.trans (hb.mono hB1.size))) hk)
  have CF := k0_ (fun (W : World) (hb : Below w.heap.size w W) => zAh (Tm.nodes kids + 1) h kids p W (Nat.lt_succ_self _) (hIs.below hb) (hG.below hb).types)
  obtain ⟨w1, hw1⟩ : ∃ w1, w1 = w.alloc (.cells (tC_ h p) 28) := ⟨_, rfl⟩
  rw [← hw1] at hB1 h0 CR
  have HW1 := k0_ hw1
  have HB1 := k0_ hB1
  have HZ := k0_ (show w1.heap.size = w.heap.size + 1 by rw [hw1]; simp)
  have HK := k0_ (fun (W : World) (hb : Below w1.heap.size w1 W) => (zN (zC hb (zD h0) h0)))
  clear hIs hG hB1 h0
  unfold St.ref
  rw [Ck.zDW]
  cases hq : Ck.refKO 17 h kids with
  | some x =>
    rw [hq] at CR
    clear hq CF
    go_enter Tryz.func11, Tryz.ntmps11
    go_upto_region 1 with fail
    rw [← HW1.out]
    clear hw1 HW1
    refine zO 22 rfl [6, 7, 8, 3] (by kernel_rfl) (by kernel_rfl) (by kernel_rfl) (fun listed a' w' => a'.defers = [] ∧ a'.tmps.size = 22 ∧ (a'.eval (.tmp 1) = .pointer (some ⟨w.heap.size, 0, none⟩)) ∧ ∃ gK g, (listed[0]? = some true → (a'.eval (.tmp 6) = .func (Fn.func 58) #[] #[.pointer (some ⟨gK, 0, none⟩)]) ∧ ((listed[2]? = some false → w'.heap[gK]? = some (.cells #[.int .i8 17] 22 (0, 0))))) ∧ (listed[1]? = some true → (a'.eval (.tmp 7) = .agg (tC_ h p))) ∧ (listed[2]? = some true → (a'.eval (.tmp 8) = .pointer (some ⟨g, 0, none⟩)) ∧ (w'.heap[g]? = some (.cells #[.int .i64 x.1, .int .i64 x.2, .string Ck.e0] 61 (0, 0))) ∧ (w1.heap.size ≤ g)) ∧ (listed[3]? = some true → (a'.eval (.tmp 3) = .pointer (some ⟨g, 0, none⟩)) ∧ (listed[2]? = some true)) ∧ Below w1.heap.size w1 w') (fun _ _ _ h => h.1) ?_ ?_ ?_
    · have hz := HZ.out
      refine ⟨rfl, rfl, rfl, 0, 0, FH, FH, FH, FH, (Below.refl _ _).drew⟩
    · rintro listed a' w' i o ⟨hdf, hsz, hx, gK, g, y0, y1, y2, y3, hbw⟩ hz hsz0 ho hi hp
      have hi13 : i < 4 := by
        rcases Nat.lt_or_ge i 4 with q | q
        · exact q
        · exact ve
      rcases (by omega : i = 0 ∨ i = 1 ∨ i = 2 ∨ i = 3) with rfl | rfl | rfl | rfl
      · obtain rfl := SI ho
        refine C_ ho 6 (vK 17 w') fun e u hg => ?_
        · obtain ⟨gK', he, hkb, hlo, hb⟩ := hg
          refine ⟨.func (Fn.func 58) #[] #[.pointer (some ⟨gK', 0, none⟩)], he, ?_⟩
          have hbs := hbw.size
          have hzz := HZ.out
          have hbs2 := hb.size
          exact ⟨pd hdf, ps hsz, KX hx, gK', g, (fun _ => ⟨pS hsz, (fun _ => hkb)⟩), K1 y1, K1 y2, K1 y3, hbw.trans (hb.mono hbw.size)⟩
      · obtain rfl := SI ho
        obtain ⟨q0, q1, q2, q3, q4, q5, q6, q7, q8, q9, q10, -⟩ := HK.out w' hbw
        exact V_ ho 7 ⟨pd hdf, ps hsz, KX hx, gK, g, (kF y0 (fun q => ⟨pn q.1, (kU q.2 (fun q => q))⟩)), (fun _ => pS hsz), K1 y2, K1 y3, hbw⟩
      · obtain rfl := SI ho
        have v0 := hpv hp 0 (by simp)
        have ww0 := (y0 v0).1
        have v1 := hpv hp 1 (by simp)
        have ww1 := (y1 v1)
        refine C_ ho 8 (CR.out gK w' hbw (((y0 v0).2) hi)) fun e u hg => ?_
        · obtain ⟨g', rfl, hf, hgl, hb⟩ := hg
          refine ⟨.pointer (some ⟨g', 0, none⟩), rfl, ?_⟩
          have hbs := hbw.size
          have hzz := HZ.out
          have hbs2 := hb.size
          exact ⟨pd hdf, ps hsz, KX hx, gK, g', (kF y0 (fun q => ⟨pn q.1, (fun qu => (zS qu).elim)⟩)), K1 y1, (fun _ => ⟨pS hsz, hf, (Nat.le_trans hbw.size hgl)⟩), KN y3, hbw.trans (hb.mono hbw.size)⟩
      · obtain rfl := SI ho
        have v2 := hpv hp 2 (by simp)
        have ww2 := (y2 v2).1
        exact V_ ho 3 ⟨pd hdf, ps hsz, KX hx, gK, g, (kF y0 (fun q => ⟨pn q.1, (kU q.2 (fun q => q))⟩)), K1 y1, K1 y2, (fun _ => ⟨pS hsz, (zA v2)⟩), hbw⟩
    · rintro listed u w' t ht hu ⟨-, -, -, gK, g, y0, y1, y2, y3, hbw⟩ hall
      have v2 := hall 2 (by decide)
      have v3 := hall 3 (by decide)
      have HBW := k0_ hbw
      have HF := k0_ ((y2 v2).2.1)
      have HGG := k0_ ((y2 v2).2.2)
      have e3 := ((y3 v3).1)
      rw [hu 3 (by decide) (by decide)] at e3
      clear y0 y1 y2 y3 v2 v3 hall hu
      clear hbw
      simp only [over, List.setIfInBounds_toArray, List.set_cons_succ, List.set_cons_zero, e3] at ht
      subst ht
      clear e3
      go_wp2_with fail
      go_ret
      exact ⟨g, rfl, HF.out, Nat.le_trans HB1.out.size HGG.out, HB1.out.trans (HBW.out.mono HB1.out.size)⟩
  | none =>
    rw [hq] at CR
    clear hq
    obtain ⟨R, hR⟩ : ∃ R, St.fo h kids = R := ⟨_, rfl⟩
    rw [hR] at CF ⊢
    clear hR
    go_enter Tryz.func11, Tryz.ntmps11
    go_upto_region 1 with fail
    rw [← HW1.out]
    clear hw1 HW1
    refine zO 22 rfl [6, 7, 8, 3] (by kernel_rfl) (by kernel_rfl) (by kernel_rfl) (fun listed a' w' => a'.defers = [] ∧ a'.tmps.size = 22 ∧ (a'.eval (.tmp 1) = .pointer (some ⟨w.heap.size, 0, none⟩)) ∧ ∃ gK, (listed[0]? = some true → (a'.eval (.tmp 6) = .func (Fn.func 58) #[] #[.pointer (some ⟨gK, 0, none⟩)]) ∧ ((listed[2]? = some false → w'.heap[gK]? = some (.cells #[.int .i8 17] 22 (0, 0))))) ∧ (listed[1]? = some true → (a'.eval (.tmp 7) = .agg (tC_ h p))) ∧ (listed[2]? = some true → (a'.eval (.tmp 8) = .pointer none)) ∧ (listed[3]? = some true → (a'.eval (.tmp 3) = .pointer none)) ∧ Below w1.heap.size w1 w') (fun _ _ _ h => h.1) ?_ ?_ ?_
    · have hz := HZ.out
      refine ⟨rfl, rfl, rfl, 0, FH, FH, FH, FH, (Below.refl _ _).drew⟩
    · rintro listed a' w' i o ⟨hdf, hsz, hx, gK, y0, y1, y2, y3, hbw⟩ hz hsz0 ho hi hp
      have hi13 : i < 4 := by
        rcases Nat.lt_or_ge i 4 with q | q
        · exact q
        · exact ve
      rcases (by omega : i = 0 ∨ i = 1 ∨ i = 2 ∨ i = 3) with rfl | rfl | rfl | rfl
      · obtain rfl := SI ho
        refine C_ ho 6 (vK 17 w') fun e u hg => ?_
        · obtain ⟨gK', he, hkb, hlo, hb⟩ := hg
          refine ⟨.func (Fn.func 58) #[] #[.pointer (some ⟨gK', 0, none⟩)], he, ?_⟩
          have hbs := hbw.size
          have hzz := HZ.out
          have hbs2 := hb.size
          exact ⟨pd hdf, ps hsz, KX hx, gK', (fun _ => ⟨pS hsz, (fun _ => hkb)⟩), K1 y1, K1 y2, K1 y3, hbw.trans (hb.mono hbw.size)⟩
      · obtain rfl := SI ho
        obtain ⟨q0, q1, q2, q3, q4, q5, q6, q7, q8, q9, q10, -⟩ := HK.out w' hbw
        exact V_ ho 7 ⟨pd hdf, ps hsz, KX hx, gK, (kF y0 (fun q => ⟨pn q.1, (kU q.2 (fun q => q))⟩)), (fun _ => pS hsz), K1 y2, K1 y3, hbw⟩
      · obtain rfl := SI ho
        have v0 := hpv hp 0 (by simp)
        have ww0 := (y0 v0).1
        have v1 := hpv hp 1 (by simp)
        have ww1 := (y1 v1)
        refine C_ ho 8 (CR.out gK w' hbw (((y0 v0).2) hi)) fun e u hg => ?_
        · obtain ⟨he, hb⟩ := hg
          refine ⟨.pointer none, he, ?_⟩
          have hbs := hbw.size
          have hzz := HZ.out
          have hbs2 := hb.size
          exact ⟨pd hdf, ps hsz, KX hx, gK, (kF y0 (fun q => ⟨pn q.1, (fun qu => (zS qu).elim)⟩)), K1 y1, (fun _ => pS hsz), K1 y3, hbw.trans (hb.mono hbw.size)⟩
      · obtain rfl := SI ho
        have v2 := hpv hp 2 (by simp)
        have ww2 := (y2 v2)
        exact V_ ho 3 ⟨pd hdf, ps hsz, KX hx, gK, (kF y0 (fun q => ⟨pn q.1, (kU q.2 (fun q => q))⟩)), K1 y1, K1 y2, (fun _ => pS hsz), hbw⟩
    · rintro listed u w' t ht hu ⟨-, -, -, gK, y0, y1, y2, y3, hbw⟩ hall
      have v3 := hall 3 (by decide)
      have HBW := k0_ hbw
      have e3 := ((y3 v3))
      rw [hu 3 (by decide) (by decide)] at e3
      clear y0 y1 y2 y3 v3 hall hu
      clear hbw
      simp only [over, List.setIfInBounds_toArray, List.set_cons_succ, List.set_cons_zero, e3] at ht
      subst ht
      clear e3
      generalize hw : w' = w2 at *
      clear hw
      have HB2 := k0_ (HB1.out.trans (HBW.out.mono HB1.out.size))
      obtain ⟨q0, q1, q2, q3, q4, q5, q6, q7, q8, q9, q10, ql⟩ := HK.out w2 HBW.out
      go_wp2_with fail
      refine (CF.out _ HB2.out).mono ?_
      rintro e u ⟨h2, p2, rfl, hx, hb⟩
      have HB3 := kt_ HB2 hb
      have hb3 := za u (.cells (tC_ h2 p2) 28)
      have hn3 := k0_ (zF u (.cells (tC_ h2 p2) 28))
      have HB4 := kt_ HB3 hb3
      have HXX := k0_ hx
      clear hb hb3 hx q0 q1 q2 q3 q4 q5 q6 q7 q8 q9 q10 ql
      cases R with
      | none =>
        go_wp2_with fail
        go_ret
        exact ⟨rfl, HB4.out⟩
      | some x =>
        have hpx := HXX.out x rfl
        subst hpx
        go_upto_region 6 with fail
        generalize hw9 : u.alloc (.cells (tC_ h2 p2) 28) = w9 at *
        clear hw9
        have HB5 := k0_ (HB4.out.alloc HB4.out.size (.cells #[.int .i64 110, .int .i64 h2.pos, .string ⟨#[]⟩] 61))
        have HF := k0_ (zF w9 (.cells #[.int .i64 110, .int .i64 h2.pos, .string ⟨#[]⟩] 61))
        have HS := k0_ HB4.out.size
        obtain ⟨q0, q1, q2, q3, q4, q5, q6, q7, q8, q9, q10, ql⟩ := zN hn3.out
        go_wp2_with fail
        go_ret
        exact ⟨w9.heap.size, rfl, HF.out, HS.out, HB5.out⟩
namespace St
def isStatic (h : Hd) (kids : Tm) : Bool := (ref h kids).isNone
end St
theorem kX (h : Hd) (kids : Tm) (p : Pl) (w : World) (hIs : Tm.Is w h kids p) (hG : TGlob w) :
    Calls Tryz.prog 5 #[.agg (tC_ h p)] w fun e w' => e = .returned (.bool (St.isStatic h kids)) ∧ Below w.heap.size w w' := by
  try unfold tC_
  have HB1 := k0_ (za w (.cells (tC_ h p) 28))
  have CR := k0_ (fun (W : World) (hb : Below w.heap.size w W) => kV h kids p W (hIs.below hb) (hG.below hb))
  clear hIs hG
  unfold St.isStatic
  cases hq : St.ref h kids with
  | some x =>
    rw [hq] at CR
    clear hq
    go_enter Tryz.func5, Tryz.ntmps5
    go_wp2_with fail
    refine (CR.out _ HB1.out).mono ?_
    rintro e w2 ⟨g, rfl, hf, hg, hb2⟩
    have HB2 := kt_ HB1 hb2
    clear hb2 hf hg
    go_wp2_with fail
    go_ret
    exact ⟨rfl, HB2.out⟩
  | none =>
    rw [hq] at CR
    clear hq
    go_enter Tryz.func5, Tryz.ntmps5
    go_wp2_with fail
    refine (CR.out _ HB1.out).mono ?_
    rintro e w2 ⟨rfl, hb2⟩
    have HB2 := kt_ HB1 hb2
    clear hb2
    go_wp2_with fail
    go_ret
    exact ⟨rfl, HB2.out⟩
end Go.Proofs.YtgjemmmbnpkamaaGreatDoor
namespace Go.Proofs.YtgjemmmbnpkamaaGreatDoor
open Go.RowKit
def statRv : Cg.Rv where
  fr := 11
  cpt := #[]
  vg := .nilFunc
  fa := 26
  fm := 27
  ft := 28
  D := St.ops
  cfr := fun args W => by simp [go_sem]
  cfa := fun args W => by simp [go_sem]
  cfm := fun args W => by simp [go_sem]
  cft := fun args W => by simp [go_sem]
  agC := fun k kids A n c k' kids' A' n' c' w h1 h2 hS => zDQ k kids A n c k' kids' A' n' c' w h1 h2 hS
  asC := fun Q kd a A n c w hkd hL hok _ => zAb Q kd a A n c w hkd hL hok
  mtC := fun Q a A n c b A' n' c' w h1 _ _ _ => zCD Q a A n c b A' n' c' w h1
  gC := fun e => by cases e
namespace St
theorem zDV {h : Hd} {kids : Tm} (e : ref h kids = none) : (Tm.chk h kids = 0 ∧ Ck.castT h kids = false) ∧ fo h kids = none := by
  unfold ref at e
  cases hq : Ck.refO h kids with
  | some x => rw [hq] at e; cases e
  | none =>
    rw [hq] at e
    refine ⟨by rw [Ck.zDW] at hq; rw [Ck.wH]; exact Ck.zDX hq, ?_⟩
    cases hf : fo h kids with
    | none => rfl
    | some x => rw [hf] at e; cases e
end St
end Go.Proofs.YtgjemmmbnpkamaaGreatDoor
namespace Go.Proofs.YtgjemmmbnpkamaaGreatDoor
set_option maxHeartbeats 1000000
set_option maxRecDepth 100000
open Go.RowKit
theorem zC9 (h : Hd) (p : Pl) (w : World) (a : Ck.T2)
    (hC : ∀ (W : World), Below w.heap.size w W → Calls Tryz.prog 13 #[.agg #[.func (Fn.func 11) #[] #[], .func (Fn.func 26) #[] #[], .func (Fn.func 27) #[] #[], .func (Fn.func 28) #[] #[], .nilFunc], .agg (tC_ h p)] W (Ck.TyPost W (.ok a))) :
    Calls Tryz.prog 6 #[.agg (tC_ h p)] w (Ck.TyPost w (.ok a)) := by
  try unfold tC_
  have hB2 := qg w (.cells (tC_ h p) 28) (.cells #[.int .i8 0, .slice none 0 0] 25)
  obtain ⟨h0, h1⟩ := qz w (.cells (tC_ h p) 28) (.cells #[.int .i8 0, .slice none 0 0] 25)
  have hz : ((w.alloc (.cells (tC_ h p) 28)).alloc (.cells #[.int .i8 0, .slice none 0 0] 25)).heap.size = w.heap.size + 2 := by simp
  obtain ⟨w1, hw1⟩ : ∃ w1, w1 = (w.alloc (.cells (tC_ h p) 28)).alloc (.cells #[.int .i8 0, .slice none 0 0] 25) := ⟨_, rfl⟩
  rw [← hw1] at hB2 h0 h1 hz
  have HW1 := k0_ hw1
  have HZ := k0_ hz
  have H2 := k0_ h1
  have hfrom := k0_ (fun (W : World) (hb : Below w1.heap.size w1 W) => hB2.trans (hb.mono hB2.size))
  have CT := k0_ (fun (W : World) (hb : Below w1.heap.size w1 W) => hC W (hB2.trans (hb.mono hB2.size)))
  have HK := k0_ (fun (W : World) (hb : Below w1.heap.size w1 W) => (zN (zC hb (zD h0) h0)))
  clear hB2 h0 h1 hz hC
  go_enter Tryz.func6, Tryz.ntmps6
  go_upto_region 1 with fail
  rw [← HW1.out]
  clear hw1 HW1
  refine zO 9 rfl [4, 5, 6, 7, 8, 3] (by kernel_rfl) (by kernel_rfl) (by kernel_rfl) (fun listed a' w' => a'.defers = [] ∧ a'.tmps.size = 9 ∧ (a'.eval (.tmp 1) = .pointer (some ⟨w.heap.size, 0, none⟩) ∧ a'.eval (.tmp 2) = .pointer (some ⟨w.heap.size + 1, 0, none⟩)) ∧ ∃ G m c, (listed[0]? = some true → (a'.eval (.tmp 4) = .agg #[.func (Fn.func 11) #[] #[], .func (Fn.func 26) #[] #[], .func (Fn.func 27) #[] #[], .func (Fn.func 28) #[] #[], .nilFunc])) ∧ (listed[1]? = some true → (a'.eval (.tmp 5) = .agg (tC_ h p))) ∧ (listed[2]? = some true → (a'.eval (.tmp 6) = .tuple #[.agg #[.int .i8 a.1, .slice G m c], .nilIface]) ∧ (listed[0]? = some true) ∧ (listed[1]? = some true) ∧ (Ck.Ly (fun b => w1.heap.size ≤ b) w' a G m c)) ∧ (listed[3]? = some true → (a'.eval (.tmp 7) = .agg #[.int .i8 a.1, .slice G m c]) ∧ (listed[0]? = some true) ∧ (listed[1]? = some true) ∧ (listed[2]? = some true)) ∧ (listed[4]? = some true → (a'.eval (.tmp 8) = .nilIface)) ∧ (listed[5]? = some true → (listed[0]? = some true) ∧ (listed[1]? = some true) ∧ (listed[2]? = some true) ∧ (listed[3]? = some true) ∧ (w'.heap[w.heap.size + 1]? = some (.cells #[.int .i8 a.1, .slice G m c] 25 (0, 0))) ∧ (Below w.heap.size w w')) ∧ (listed[6]? = some true → (a'.eval (.tmp 3) = .nilIface)) ∧ (listed[5]? = some false → Below w1.heap.size w1 w')) (fun _ _ _ h => h.1) ?_ ?_ ?_
  · have hz := HZ.out
    refine ⟨rfl, rfl, ⟨rfl, rfl⟩, none, 0, 0, FH, FH, FH, FH, FH, FH, FH, (fun _ => (Below.refl _ _).drew)⟩
  · rintro listed a' w' i o ⟨hdf, hsz, hx, G, m, c, y0, y1, y2, y3, y4, y5, y6, hbw⟩ hz hsz0 ho hi hp
    have hi13 : i < 7 := by
      exact zAR
    rcases (by omega : i = 0 ∨ i = 1 ∨ i = 2 ∨ i = 3 ∨ i = 4 ∨ i = 5 ∨ i = 6) with rfl | rfl | rfl | rfl | rfl | rfl | rfl
    · obtain rfl := SI ho
      have hbw := hbw (nf (by rw [hz]; decide) (fun q => (y5 q).1) hi)
      refine C_ ho 4 (kS 11 #[] w') fun e u hg => ?_
      · obtain ⟨he, hb⟩ := hg
        refine ⟨.agg #[.func (Fn.func 11) #[] #[], .func (Fn.func 26) #[] #[], .func (Fn.func 27) #[] #[], .func (Fn.func 28) #[] #[], .nilFunc], he, ?_⟩
        have hbs := hbw.size
        have hzz := HZ.out
        have hbs2 := hb.size
        exact ⟨pd hdf, ps hsz, KX hx, G, m, c, (fun _ => pS hsz), K1 y1, KN y2, KN y3, K1 y4, KN y5, K1 y6, (fun _ => hbw.trans (hb.mono hbw.size))⟩
    · obtain rfl := SI ho
      have hbu := hbw
      have hbw := hbw (nf (by rw [hz]; decide) (fun q => (y5 q).2.1) hi)
      obtain ⟨q0, q1, q2, q3, q4, q5, q6, q7, q8, q9, q10, -⟩ := HK.out w' hbw
      exact V_ ho 5 ⟨pd hdf, ps hsz, KX hx, G, m, c, K1 y0, (fun _ => pS hsz), KN y2, KN y3, K1 y4, KN y5, K1 y6, (kU hbu id)⟩
    · obtain rfl := SI ho
      have v0 := hpv hp 0 (by simp)
      have ww0 := (y0 v0)
      have v1 := hpv hp 1 (by simp)
      have ww1 := (y1 v1)
      have hbw := hbw (nf (by rw [hz]; decide) (fun q => (y5 q).2.2.1) hi)
      refine C_ ho 6 (CT.out w' hbw) fun e u hg => ?_
      · obtain ⟨G', m', c', rfl, hl, hb⟩ := hg
        refine ⟨.tuple #[.agg #[.int .i8 a.1, .slice G' m' c'], .nilIface], rfl, ?_⟩
        have hbs := hbw.size
        have hzz := HZ.out
        have hbs2 := hb.size
        exact ⟨pd hdf, ps hsz, KX hx, G', m', c', K1 y0, K1 y1, (fun _ => ⟨pS hsz, (zA v0), (zA v1), Ck.Ly.weak hl (fun b _ hq => Nat.le_trans hbw.size hq)⟩), KN y3, K1 y4, KN y5, K1 y6, (fun _ => hbw.trans (hb.mono hbw.size))⟩
    · obtain rfl := SI ho
      have v2 := hpv hp 2 (by simp)
      have ww2 := (y2 v2).1
      exact V_ ho 7 ⟨pd hdf, ps hsz, KX hx, G, m, c, K1 y0, K1 y1, K1 y2, (fun _ => ⟨pS hsz, (zA ((y2 v2).2.1)), (zA ((y2 v2).2.2.1)), (zA v2)⟩), K1 y4, KN y5, K1 y6, (kU hbw id)⟩
    · obtain rfl := SI ho
      have v2 := hpv hp 2 (by simp)
      have ww2 := (y2 v2).1
      exact V_ ho 8 ⟨pd hdf, ps hsz, KX hx, G, m, c, K1 y0, K1 y1, K1 y2, K1 y3, (fun _ => pS hsz), K1 y5, K1 y6, (kU hbw id)⟩
    · obtain rfl := SI ho
      have v3 := hpv hp 3 (by simp)
      have ww3 := (y3 v3).1
      have hbw := hbw hi
      have hbox := zC hbw (zD H2.out) H2.out
      obtain ⟨bc0, bc1, bf0, bf1, -⟩ := zM hbox
      refine zW ho rfl (zx rfl (w2 := (w'.setCell ⟨w.heap.size + 1, 0, none⟩ (.int .i8 a.1)).setCell ⟨w.heap.size + 1, 1, none⟩ (.slice G m c)) ?_ ?_)
      · exact EV
      · have hsa : ((w'.setCell ⟨w.heap.size + 1, 0, none⟩ (.int .i8 a.1)).setCell ⟨w.heap.size + 1, 1, none⟩ (.slice G m c)).heap.size = w'.heap.size := by simp
        have hbs := hbw.size
        have hzz := HZ.out
        exact ⟨hdf, hsz, hx, G, m, c, K1 y0, K1 y1, K1 y2, K1 y3, K1 y4, (fun _ => ⟨(zA ((y3 v3).2.1)), (zA ((y3 v3).2.2.1)), (zA ((y3 v3).2.2.2)), (zA v3), zT hbox _ _, zL (hfrom.out w' hbw) (by omega) _ _⟩), K1 y6, (fun qu => (zS qu).elim)⟩
    · obtain rfl := SI ho
      have v4 := hpv hp 4 (by simp)
      have ww4 := (y4 v4)
      exact V_ ho 3 ⟨pd hdf, ps hsz, KX hx, G, m, c, K1 y0, K1 y1, K1 y2, K1 y3, K1 y4, K1 y5, (fun _ => pS hsz), (kU hbw id)⟩
  · rintro listed u w' t ht hu ⟨-, -, -, G, m, c, y0, y1, y2, y3, y4, y5, y6, hbw⟩ hall
    have v2 := hall 2 (by decide)
    have v5 := hall 5 (by decide)
    have v6 := hall 6 (by decide)
    have HBX := k0_ ((y5 v5).2.2.2.2.2)
    have hl := ((y2 v2).2.2.2)
    have hx := ((y5 v5).2.2.2.2.1)
    have e3 := ((y6 v6))
    rw [hu 3 (by decide) (by decide)] at e3
    clear y0 y1 y2 y3 y4 y5 y6 v2 v5 v6 hall hu
    clear hbw
    simp only [over, List.setIfInBounds_toArray, List.set_cons_succ, List.set_cons_zero] at ht
    subst ht
    obtain ⟨k0, k1', -, -, -⟩ := zM hx
    have hz := HZ.out
    go_wp2_with fail
    refine ⟨rfl, .tuple #[.agg #[.int .i8 a.1, .slice G m c], .nilIface], by simp [results, Tryz.results6, go_sem, k0, k1', e3], ?_⟩
    exact ⟨G, m, c, rfl, hl.weak (fun b _ hq => by have h1 : w1.heap.size ≤ b := hq; show w.heap.size ≤ b; omega), HBX.out⟩
theorem zAa (h : Hd) (p : Pl) (w : World) (E at' : Int) (x : ByteArray)
    (hC : ∀ (W : World), Below w.heap.size w W → Calls Tryz.prog 13 #[.agg #[.func (Fn.func 11) #[] #[], .func (Fn.func 26) #[] #[], .func (Fn.func 27) #[] #[], .func (Fn.func 28) #[] #[], .nilFunc], .agg (tC_ h p)] W (Ck.TyPost W (.bad E at' x))) :
    Calls Tryz.prog 6 #[.agg (tC_ h p)] w (Ck.TyPost w (.bad E at' x)) := by
  try unfold tC_
  have hB2 := qg w (.cells (tC_ h p) 28) (.cells #[.int .i8 0, .slice none 0 0] 25)
  obtain ⟨h0, h1⟩ := qz w (.cells (tC_ h p) 28) (.cells #[.int .i8 0, .slice none 0 0] 25)
  have hz : ((w.alloc (.cells (tC_ h p) 28)).alloc (.cells #[.int .i8 0, .slice none 0 0] 25)).heap.size = w.heap.size + 2 := by simp
  obtain ⟨w1, hw1⟩ : ∃ w1, w1 = (w.alloc (.cells (tC_ h p) 28)).alloc (.cells #[.int .i8 0, .slice none 0 0] 25) := ⟨_, rfl⟩
  rw [← hw1] at hB2 h0 h1 hz
  have HW1 := k0_ hw1
  have HZ := k0_ hz
  have H2 := k0_ h1
  have hfrom := k0_ (fun (W : World) (hb : Below w1.heap.size w1 W) => hB2.trans (hb.mono hB2.size))
  have CT := k0_ (fun (W : World) (hb : Below w1.heap.size w1 W) => hC W (hB2.trans (hb.mono hB2.size)))
  have HK := k0_ (fun (W : World) (hb : Below w1.heap.size w1 W) => (zN (zC hb (zD h0) h0)))
  clear hB2 h0 h1 hz hC
  go_enter Tryz.func6, Tryz.ntmps6
  go_upto_region 1 with fail
  rw [← HW1.out]
  clear hw1 HW1
  refine zO 9 rfl [4, 5, 6, 7, 8, 3] (by kernel_rfl) (by kernel_rfl) (by kernel_rfl) (fun listed a' w' => a'.defers = [] ∧ a'.tmps.size = 9 ∧ (a'.eval (.tmp 1) = .pointer (some ⟨w.heap.size, 0, none⟩) ∧ a'.eval (.tmp 2) = .pointer (some ⟨w.heap.size + 1, 0, none⟩)) ∧ ∃ g, (listed[0]? = some true → (a'.eval (.tmp 4) = .agg #[.func (Fn.func 11) #[] #[], .func (Fn.func 26) #[] #[], .func (Fn.func 27) #[] #[], .func (Fn.func 28) #[] #[], .nilFunc])) ∧ (listed[1]? = some true → (a'.eval (.tmp 5) = .agg (tC_ h p))) ∧ (listed[2]? = some true → (a'.eval (.tmp 6) = .tuple #[.agg #[.int .i8 0, .slice none 0 0], .iface 49 (.pointer (some ⟨g, 0, none⟩))]) ∧ (listed[0]? = some true) ∧ (listed[1]? = some true) ∧ (w'.heap[g]? = some (.cells #[.int .i64 E, .int .i64 at', .string x] 61 (0, 0))) ∧ (w1.heap.size ≤ g)) ∧ (listed[3]? = some true → (a'.eval (.tmp 7) = .agg #[.int .i8 0, .slice none 0 0]) ∧ (listed[0]? = some true) ∧ (listed[1]? = some true) ∧ (listed[2]? = some true)) ∧ (listed[4]? = some true → (a'.eval (.tmp 8) = .iface 49 (.pointer (some ⟨g, 0, none⟩))) ∧ (listed[2]? = some true)) ∧ (listed[5]? = some true → (listed[0]? = some true) ∧ (listed[1]? = some true) ∧ (listed[2]? = some true) ∧ (listed[3]? = some true) ∧ (w'.heap[w.heap.size + 1]? = some (.cells #[.int .i8 0, .slice none 0 0] 25 (0, 0))) ∧ (Below w.heap.size w w')) ∧ (listed[6]? = some true → (a'.eval (.tmp 3) = .iface 49 (.pointer (some ⟨g, 0, none⟩))) ∧ (listed[2]? = some true)) ∧ (listed[5]? = some false → Below w1.heap.size w1 w')) (fun _ _ _ h => h.1) ?_ ?_ ?_
  · have hz := HZ.out
    refine ⟨rfl, rfl, ⟨rfl, rfl⟩, 0, FH, FH, FH, FH, FH, FH, FH, (fun _ => (Below.refl _ _).drew)⟩
  · rintro listed a' w' i o ⟨hdf, hsz, hx, g, y0, y1, y2, y3, y4, y5, y6, hbw⟩ hz hsz0 ho hi hp
    have hi13 : i < 7 := by
      exact zAR
    rcases (by omega : i = 0 ∨ i = 1 ∨ i = 2 ∨ i = 3 ∨ i = 4 ∨ i = 5 ∨ i = 6) with rfl | rfl | rfl | rfl | rfl | rfl | rfl
    · obtain rfl := SI ho
      have hbw := hbw (nf (by rw [hz]; decide) (fun q => (y5 q).1) hi)
      refine C_ ho 4 (kS 11 #[] w') fun e u hg => ?_
      · obtain ⟨he, hb⟩ := hg
        refine ⟨.agg #[.func (Fn.func 11) #[] #[], .func (Fn.func 26) #[] #[], .func (Fn.func 27) #[] #[], .func (Fn.func 28) #[] #[], .nilFunc], he, ?_⟩
        have hbs := hbw.size
        have hzz := HZ.out
        have hbs2 := hb.size
        exact ⟨pd hdf, ps hsz, KX hx, g, (fun _ => pS hsz), K1 y1, KN y2, KN y3, K1 y4, KN y5, K1 y6, (fun _ => hbw.trans (hb.mono hbw.size))⟩
    · obtain rfl := SI ho
      have hbu := hbw
      have hbw := hbw (nf (by rw [hz]; decide) (fun q => (y5 q).2.1) hi)
      obtain ⟨q0, q1, q2, q3, q4, q5, q6, q7, q8, q9, q10, -⟩ := HK.out w' hbw
      exact V_ ho 5 ⟨pd hdf, ps hsz, KX hx, g, K1 y0, (fun _ => pS hsz), KN y2, KN y3, K1 y4, KN y5, K1 y6, (kU hbu id)⟩
    · obtain rfl := SI ho
      have v0 := hpv hp 0 (by simp)
      have ww0 := (y0 v0)
      have v1 := hpv hp 1 (by simp)
      have ww1 := (y1 v1)
      have hbw := hbw (nf (by rw [hz]; decide) (fun q => (y5 q).2.2.1) hi)
      refine C_ ho 6 (CT.out w' hbw) fun e u hg => ?_
      · obtain ⟨g', rfl, hf, hg, hb⟩ := hg
        refine ⟨.tuple #[.agg #[.int .i8 0, .slice none 0 0], .iface 49 (.pointer (some ⟨g', 0, none⟩))], rfl, ?_⟩
        have hbs := hbw.size
        have hzz := HZ.out
        have hbs2 := hb.size
        exact ⟨pd hdf, ps hsz, KX hx, g', K1 y0, K1 y1, (fun _ => ⟨pS hsz, (zA v0), (zA v1), hf, (Nat.le_trans hbw.size hg)⟩), KN y3, KN y4, KN y5, KN y6, (fun _ => hbw.trans (hb.mono hbw.size))⟩
    · obtain rfl := SI ho
      have v2 := hpv hp 2 (by simp)
      have ww2 := (y2 v2).1
      exact V_ ho 7 ⟨pd hdf, ps hsz, KX hx, g, K1 y0, K1 y1, K1 y2, (fun _ => ⟨pS hsz, (zA ((y2 v2).2.1)), (zA ((y2 v2).2.2.1)), (zA v2)⟩), K1 y4, KN y5, K1 y6, (kU hbw id)⟩
    · obtain rfl := SI ho
      have v2 := hpv hp 2 (by simp)
      have ww2 := (y2 v2).1
      exact V_ ho 8 ⟨pd hdf, ps hsz, KX hx, g, K1 y0, K1 y1, K1 y2, K1 y3, (fun _ => ⟨pS hsz, (zA v2)⟩), K1 y5, K1 y6, (kU hbw id)⟩
    · obtain rfl := SI ho
      have v3 := hpv hp 3 (by simp)
      have ww3 := (y3 v3).1
      have hbw := hbw hi
      have hbox := zC hbw (zD H2.out) H2.out
      obtain ⟨bc0, bc1, bf0, bf1, -⟩ := zM hbox
      refine zW ho rfl (zx rfl (w2 := (w'.setCell ⟨w.heap.size + 1, 0, none⟩ (.int .i8 0)).setCell ⟨w.heap.size + 1, 1, none⟩ (.slice none 0 0)) ?_ ?_)
      · exact EV
      · have hsa : ((w'.setCell ⟨w.heap.size + 1, 0, none⟩ (.int .i8 0)).setCell ⟨w.heap.size + 1, 1, none⟩ (.slice none 0 0)).heap.size = w'.heap.size := by simp
        have hbs := hbw.size
        have hzz := HZ.out
        exact ⟨hdf, hsz, hx, g, K1 y0, K1 y1, (kF y2 (fun q => ⟨q.1, zA q.2.1, zA q.2.2.1, (zi q.2.2.2.1 (by omega) _ _), q.2.2.2.2⟩)), K1 y3, K1 y4, (fun _ => ⟨(zA ((y3 v3).2.1)), (zA ((y3 v3).2.2.1)), (zA ((y3 v3).2.2.2)), (zA v3), zT hbox _ _, zL (hfrom.out w' hbw) (by omega) _ _⟩), K1 y6, (fun qu => (zS qu).elim)⟩
    · obtain rfl := SI ho
      have v4 := hpv hp 4 (by simp)
      have ww4 := (y4 v4).1
      exact V_ ho 3 ⟨pd hdf, ps hsz, KX hx, g, K1 y0, K1 y1, K1 y2, K1 y3, K1 y4, K1 y5, (fun _ => ⟨pS hsz, (zA ((y4 v4).2))⟩), (kU hbw id)⟩
  · rintro listed u w' t ht hu ⟨-, -, -, g, y0, y1, y2, y3, y4, y5, y6, hbw⟩ hall
    have v2 := hall 2 (by decide)
    have v5 := hall 5 (by decide)
    have v6 := hall 6 (by decide)
    have HBX := k0_ ((y5 v5).2.2.2.2.2)
    have hf := ((y2 v2).2.2.2.1)
    have hg := ((y2 v2).2.2.2.2)
    have hx := ((y5 v5).2.2.2.2.1)
    have e3 := ((y6 v6).1)
    rw [hu 3 (by decide) (by decide)] at e3
    clear y0 y1 y2 y3 y4 y5 y6 v2 v5 v6 hall hu
    clear hbw
    simp only [over, List.setIfInBounds_toArray, List.set_cons_succ, List.set_cons_zero] at ht
    subst ht
    obtain ⟨k0, k1', -, -, -⟩ := zM hx
    have hz := HZ.out
    have HF := k0_ hf
    clear hf
    go_wp2_with fail
    refine ⟨rfl, .tuple #[.agg #[.int .i8 0, .slice none 0 0], .iface 49 (.pointer (some ⟨g, 0, none⟩))], by simp [results, Tryz.results6, go_sem, k0, k1', e3], ?_⟩
    exact ⟨g, rfl, HF.out, (by omega), HBX.out⟩
theorem zCA (h : Hd) (p : Pl) (w : World) (R : Ck.R) (hC : ∀ (W : World), Below w.heap.size w W → Calls Tryz.prog 13 #[.agg #[.func (Fn.func 11) #[] #[], .func (Fn.func 26) #[] #[], .func (Fn.func 27) #[] #[], .func (Fn.func 28) #[] #[], .nilFunc], .agg (tC_ h p)] W (Ck.TyPost W R)) :
    Calls Tryz.prog 6 #[.agg (tC_ h p)] w (Ck.TyPost w R) := by
  try unfold tC_
  cases R with
  | ok a => exact zC9 h p w a hC
  | bad E at' x => exact zAa h p w E at' x hC
theorem yH (h : Hd) (kids : Tm) (p : Pl) (w : World) (hIs : Tm.Is w h kids p) (hG : TGlob w) :
    Calls Tryz.prog 6 #[.agg (tC_ h p)] w (Ck.TyPost w (Cg.tellR St.ops (St.ref h kids) h kids)) := by
  try unfold tC_
  refine zCA h p w _ fun W hb => ?_
  exact zCN statRv h kids p W (St.ref h kids) (hIs.below hb) (hG.below hb) (fun e => ⟨(St.zDV e).1.1, .inr (St.zDV e).1.2⟩) (fun U hu => kV h kids p U ((hIs.below hb).below hu) ((hG.below hb).below hu))
namespace Ty
end Ty
namespace St
open Ck
def kn (a : T2) : Prop := chk a = 0 ∧ Ty.knT a.1 a.2 = true
theorem kn.parts {a : T2} (h : kn a) : a.1 ≠ 0 ∧ Ty.knF a.2 = true := by
  have := h.2
  unfold Ty.knT at this
  simpa using this
theorem kn.ok {a : T2} (h : kn a) : Ty.okT a.1 a.2 = true := (Ty.xJ h.1).1
def KnR (r : R) : Prop := ∀ a, r = .ok a → Ty.knT a.1 a.2 = true
theorem KnR.ok {a : T2} (h : Ty.knT a.1 a.2 = true) : KnR (.ok a) := fun b e => by injection e with e; rw [← e]; exact h
def KnE (l : Env) : Prop := ∀ x ∈ l, Ty.knT x.2.1 x.2.2 = true
theorem KnE.snoc {l : Env} {x : ByteArray} {a : T2} (h : KnE l) (ha : Ty.knT a.1 a.2 = true) : KnE (l ++ [(x, a)]) := fun y hy => by
  rcases List.mem_append.1 hy with q | q
  · exact h y q
  · rw [List.mem_singleton.1 q]; exact ha
end St
end Go.Proofs.YtgjemmmbnpkamaaGreatDoor
