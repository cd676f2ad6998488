import Derived.Test.YtglgjaomneljbaaGreatDoorM25
import Derived.Test.YtglgjaomneljbaaGreatDoorM31
namespace Go.Proofs.YtglgjaomneljbaaGreatDoor
set_option maxHeartbeats 1000000
set_option maxRecDepth 100000
open Go.RowKit
theorem zA9 (Q : Nat -> Prop) (kd : Int) (a : Ck.T2) (A : Option Addr) (n c : Nat) (w : World) (hkd : 3 <= kd /\ kd <= 5) (hL : Ck.Ly Q w a A n c) (hok : Ty.okT a.1 a.2 = true) :
  Calls Tryz.prog 18 #[.int .i8 kd, .agg #[.int .i8 a.1, .slice A n c]] w (Cg.AsPost Q w (St.ops.asO kd a) (St.ops.asl kd a) (St.ops.asr kd a)) := by
 by_cases hk : a.1 = kd
 ·obtain ⟨k, kids⟩ := a
  dsimp only at hk hok ⊢;subst hk;obtain ⟨a1, a2, p1, f1, a3, a4, p2, f2, rfl, o1, o2⟩ := Ty.vk hok hkd.1;have hn := hL.is.n_eq;simp only [Ty.len] at hn;subst hn;obtain ⟨bb, oo, B1, c1, B2, c2, rfl, hQ, x0, x1, x2, x3, L1, L2⟩ := hL.parts;have e1 : St.ops.asO k (k, .node a1 a2 p1 f1 (.node a3 a4 p2 f2 .nil)) = true := by show (k == k) = true; simp
  have e2 : St.ops.asl k (k, .node a1 a2 p1 f1 (.node a3 a4 p2 f2 .nil)) = (p1, f1) := by show (if k = k then _ else _) = _; rw [if_pos rfl]; rfl
  have e3 : St.ops.asr k (k, .node a1 a2 p1 f1 (.node a3 a4 p2 f2 .nil)) = (p2, f2) := by show (if k = k then _ else _) = _; rw [if_pos rfl]; rfl
  rw [e1, e2, e3];have hB3 := qV w (.cells #[.int .i8 k, .slice (some ⟨bb, oo, none⟩) 2 c] 25) (.cells #[.int .i8 0, .slice none 0 0] 25) (.cells #[.int .i8 0, .slice none 0 0] 25);obtain ⟨h0, h1, h2⟩ := qj w (.cells #[.int .i8 k, .slice (some ⟨bb, oo, none⟩) 2 c] 25) (.cells #[.int .i8 0, .slice none 0 0] 25) (.cells #[.int .i8 0, .slice none 0 0] 25);have HL1 := k0_ (((L1.weak (Q' := Ck.Cut Q w.heap.size (w.heap.size + 3)) (fun b hl hq => .inl ⟨hq, hl⟩)).later hB3));have HL2 := k0_ (((L2.weak (Q' := Ck.Cut Q w.heap.size (w.heap.size + 3)) (fun b hl hq => .inl ⟨hq, hl⟩)).later hB3));have x0 := zB x0 hB3;have x1 := zB x1 hB3;have x2 := zB x2 hB3;have x3 := zB x3 hB3;have HB3 := k0_ hB3;clear e1 e2 e3 hok hL hQ L1 L2 hB3 o1 o2 hkd;generalize Ty.len f1 = m1 at *;generalize Ty.len f2 = m2 at *;have ek : (k != k) = false := by simp
  go_enter Tryz.func18, Tryz.ntmps18
  go_upto_region 1 with fail
  generalize ((w.alloc (.cells #[.int .i8 k, .slice (some ⟨bb, oo, none⟩) 2 c] 25)).alloc (.cells #[.int .i8 0, .slice none 0 0] 25)).alloc (.cells #[.int .i8 0, .slice none 0 0] 25) = w1 at *;obtain ⟨r0, r1, -, -, rl⟩ := zF h0;have H1 := k0_ h1;have H2 := k0_ h2;obtain ⟨y0, y1, y2, y3, yl⟩ := zF h1;obtain ⟨z0, z1, z2, z3, zl⟩ := zF h2;clear h0 h1 h2
  go_wp2_with fail
  go_region
  have Z4 := k0_ (zM (zL H1.out (.int .i8 p1) (.slice B1 m1 c1)) (show w.heap.size + 1 + 1 ≠ w.heap.size + 1 by omega) (.int .i8 p2) (.slice B2 m2 c2));have Z5 := k0_ (zL (zM H2.out (show w.heap.size + 1 ≠ w.heap.size + 1 + 1 by omega) (.int .i8 p1) (.slice B1 m1 c1)) (.int .i8 p2) (.slice B2 m2 c2));have HBF := k0_ (zG (zG HB3.out (show w.heap.size <= w.heap.size + 1 by omega) (.int .i8 p1) (.slice B1 m1 c1)) (show w.heap.size <= w.heap.size + 1 + 1 by omega) (.int .i8 p2) (.slice B2 m2 c2));have HJ1 := k0_ ((HL1.out.set2 (X := w.heap.size + 1) (fun b h => h.ne (by omega) (by omega)) (.int .i8 p1) (.slice B1 m1 c1)).set2 (X := w.heap.size + 1 + 1) (fun b h => h.ne (by omega) (by omega)) (.int .i8 p2) (.slice B2 m2 c2));have HJ2 := k0_ ((HL2.out.set2 (X := w.heap.size + 1) (fun b h => h.ne (by omega) (by omega)) (.int .i8 p1) (.slice B1 m1 c1)).set2 (X := w.heap.size + 1 + 1) (fun b h => h.ne (by omega) (by omega)) (.int .i8 p2) (.slice B2 m2 c2));generalize ((((w1.setCell ⟨w.heap.size + 1, 0, none⟩ (.int .i8 p1)).setCell ⟨w.heap.size + 1, 1, none⟩ (.slice B1 m1 c1)).setCell ⟨w.heap.size + 1 + 1, 0, none⟩ (.int .i8 p2)).setCell ⟨w.heap.size + 1 + 1, 1, none⟩ (.slice B2 m2 c2)) = w6 at *;have K4 : Hid (w6.drew.heap[w.heap.size + 1]? = some (.cells #[.int .i8 p1, .slice B1 m1 c1] 25 (0, 0))) := k0_ Z4.out;have K5 : Hid (w6.drew.heap[w.heap.size + 1 + 1]? = some (.cells #[.int .i8 p2, .slice B2 m2 c2] 25 (0, 0))) := k0_ Z5.out;have HJ1 := k0_ (HJ1.out.later (Below.refl _ _).drew);have HJ2 := k0_ (HJ2.out.later (Below.refl _ _).drew);have HBF := k0_ (HBF.out.drew);clear Z4 Z5 H1 H2 HL1 HL2 HB3 r0 r1 rl x0 x1 x2 x3 y0 y1 y2 y3 yl z0 z1 z2 z3 zl;generalize w6.drew = w7 at *;obtain ⟨k0, k1, -, -, -⟩ := zF K4.out;obtain ⟨k2, k3, -, -, -⟩ := zF K5.out
  go_wp2_with fail
  refine bodyPost_ret (v := .tuple #[.agg #[.int .i8 p1, .slice B1 m1 c1], .agg #[.int .i8 p2, .slice B2 m2 c2], .bool true]) (by simp [results, Tryz.results18, go_sem, k0, k1, k2, k3]) rfl ⟨B1, m1, c1, B2, m2, c2, rfl, HJ1.out.weak (fun b _ h => h.out (by omega)), HJ2.out.weak (fun b _ h => h.out (by omega)), HBF.out⟩
 ·have e1 : St.ops.asO kd a = false := by show (a.1 == kd) = false; simpa using hk
  have e2 : St.ops.asl kd a = (0, .nil) := by show (if a.1 = kd then _ else _) = _; rw [if_neg hk]
  have e3 : St.ops.asr kd a = (0, .nil) := by show (if a.1 = kd then _ else _) = _; rw [if_neg hk]
  rw [e1, e2, e3];have hB3 := qV w (.cells #[.int .i8 a.1, .slice A n c] 25) (.cells #[.int .i8 0, .slice none 0 0] 25) (.cells #[.int .i8 0, .slice none 0 0] 25);obtain ⟨h0, h1, h2⟩ := qj w (.cells #[.int .i8 a.1, .slice A n c] 25) (.cells #[.int .i8 0, .slice none 0 0] 25) (.cells #[.int .i8 0, .slice none 0 0] 25);have HB3 := k0_ hB3;have ek : (a.1 != kd) = true := by simpa using hk
  clear e1 e2 e3 hok hL hB3 hkd hk
  go_enter Tryz.func18, Tryz.ntmps18
  go_upto_region 1 with fail
  generalize ((w.alloc (.cells #[.int .i8 a.1, .slice A n c] 25)).alloc (.cells #[.int .i8 0, .slice none 0 0] 25)).alloc (.cells #[.int .i8 0, .slice none 0 0] 25) = w1 at *;obtain ⟨r0, r1, -, -, rl⟩ := zF h0;have H1 := k0_ h1;have H2 := k0_ h2;obtain ⟨y0, y1, y2, y3, yl⟩ := zF h1;obtain ⟨z0, z1, z2, z3, zl⟩ := zF h2;clear h0 h1 h2
  go_wp2_with fail
  go_region
  have Z4 := k0_ (zM (zL H1.out (.int .i8 0) (.slice none 0 0)) (show w.heap.size + 1 + 1 ≠ w.heap.size + 1 by omega) (.int .i8 0) (.slice none 0 0));have Z5 := k0_ (zL (zM H2.out (show w.heap.size + 1 ≠ w.heap.size + 1 + 1 by omega) (.int .i8 0) (.slice none 0 0)) (.int .i8 0) (.slice none 0 0));have HBF := k0_ (zG (zG HB3.out (show w.heap.size <= w.heap.size + 1 by omega) (.int .i8 0) (.slice none 0 0)) (show w.heap.size <= w.heap.size + 1 + 1 by omega) (.int .i8 0) (.slice none 0 0));generalize ((((w1.setCell ⟨w.heap.size + 1, 0, none⟩ (.int .i8 0)).setCell ⟨w.heap.size + 1, 1, none⟩ (.slice none 0 0)).setCell ⟨w.heap.size + 1 + 1, 0, none⟩ (.int .i8 0)).setCell ⟨w.heap.size + 1 + 1, 1, none⟩ (.slice none 0 0)) = w6 at *;have K4 : Hid (w6.drew.heap[w.heap.size + 1]? = some (.cells #[.int .i8 0, .slice none 0 0] 25 (0, 0))) := k0_ Z4.out;have K5 : Hid (w6.drew.heap[w.heap.size + 1 + 1]? = some (.cells #[.int .i8 0, .slice none 0 0] 25 (0, 0))) := k0_ Z5.out;have HBF := k0_ (HBF.out.drew);clear Z4 Z5 H1 H2 HB3 r0 r1 rl y0 y1 y2 y3 yl z0 z1 z2 z3 zl;generalize w6.drew = w7 at *;obtain ⟨k0, k1, -, -, -⟩ := zF K4.out;obtain ⟨k2, k3, -, -, -⟩ := zF K5.out
  go_wp2_with fail
  refine bodyPost_ret (v := .tuple #[.agg #[.int .i8 0, .slice none 0 0], .agg #[.int .i8 0, .slice none 0 0], .bool false]) (by simp [results, Tryz.results18, go_sem, k0, k1, k2, k3]) rfl ⟨none, 0, 0, none, 0, 0, rfl, Ck.Ly.zero _ _, Ck.Ly.zero _ _, HBF.out⟩
theorem zBh (Q : Nat -> Prop) (a : Ck.T2) (A : Option Addr) (n c : Nat) (b : Ck.T2) (A' : Option Addr) (n' c' : Nat) (w : World) (hL : Ck.Ly Q w a A n c) :
  Calls Tryz.prog 19 #[.agg #[.int .i8 a.1, .slice A n c], .agg #[.int .i8 b.1, .slice A' n' c']] w (Ck.Gives Q w a) := by
 have hB3 := qV w (.cells #[.int .i8 a.1, .slice A n c] 25) (.cells #[.int .i8 b.1, .slice A' n' c'] 25) (.cells #[.int .i8 a.1, .slice A n c] 25);have HL := k0_ ((hL.weak (Q' := Ck.Cut Q w.heap.size w.heap.size) (fun b hl hq => .inl ⟨hq, hl⟩)).later hB3);have HB3 := k0_ hB3;clear hL hB3
 go_enter Tryz.func19, Tryz.ntmps19
 go_wp2_with fail
 refine bodyPost_ret (v := .agg #[.int .i8 a.1, .slice A n c]) (by simp [results, Tryz.results19, go_sem, *]) rfl ⟨A, n, c, rfl, HL.out, HB3.out⟩
theorem kQ (f : FuncId) (cp : Array Value) (w : World) : Calls Tryz.prog 10 #[.func (Fn.func f) #[] cp] w fun e w' => e = .returned (.agg #[.func (Fn.func f) #[] cp, .func (Fn.func 17) #[] #[], .func (Fn.func 18) #[] #[], .func (Fn.func 19) #[] #[], .nilFunc]) /\ Below w.heap.size w w' := by
 have HB := k0_ (zO w (.cells #[.func (Fn.func f) #[] cp, .func (Fn.func 17) #[] #[], .func (Fn.func 18) #[] #[], .func (Fn.func 19) #[] #[], .nilFunc] 45))
 go_enter Tryz.func10, Tryz.ntmps10
 go_wp2_with fail
 refine bodyPost_ret (v := .agg #[.func (Fn.func f) #[] cp, .func (Fn.func 17) #[] #[], .func (Fn.func 18) #[] #[], .func (Fn.func 19) #[] #[], .nilFunc]) (by simp [results, Tryz.results10, go_sem, *]) rfl ⟨rfl, HB.out⟩
set_option maxHeartbeats 1000000
set_option maxRecDepth 100000
open Go.RowKit
theorem kR (h : Hd) (kids : Tm) (p : Pl) (w : World) (hIs : Tm.Is w h kids p) (hG : TGlob w) :
  Calls Tryz.prog 11 #[.agg (tC_ h p)] w (Cg.RefPost w (St.ref h kids)) := by
 try unfold tC_
 have hB1 := zO w (.cells (tC_ h p) 28);have h0 := zD w (.cells (tC_ h p) 28);have CR := k0_ (fun (gK : Nat) (W : World) (hb : Below (w.alloc (.cells (tC_ h p) 28)).heap.size (w.alloc (.cells (tC_ h p) 28)) W) (hk : W.heap[gK]? = some (.cells #[.int .i8 17] 22 (0, 0))) => yU 17 gK h kids p W (hIs.below (hB1.trans (hb.mono hB1.size))) (hG.below (hB1.trans (hb.mono hB1.size))) hk);have CF := k0_ (fun (W : World) (hb : Below w.heap.size w W) => zAE (Tm.nodes kids + 1) h kids p W (Nat.lt_succ_self _) (hIs.below hb) (hG.below hb).types);obtain ⟨w1, hw1⟩ : ∃ w1, w1 = w.alloc (.cells (tC_ h p) 28) := ⟨_, rfl⟩
 rw [← hw1] at hB1 h0 CR;have HW1 := k0_ hw1;have HB1 := k0_ hB1;have HZ := k0_ (show w1.heap.size = w.heap.size + 1 by rw [hw1]; simp);have HK := k0_ (fun (W : World) (hb : Below w1.heap.size w1 W) => (zJ (zA hb (zC h0) h0)));clear hIs hG hB1 h0;unfold St.ref;rw [Ck.zCy]
 cases hq : Ck.refKO 17 h kids with
 | some x =>
  rw [hq] at CR;clear hq CF
  go_enter Tryz.func11, Tryz.ntmps11
  go_upto_region 1 with fail
  rw [← HW1.out];clear hw1 HW1;refine zI 22 rfl [6, 7, 8, 3] (by kernel_rfl) (by kernel_rfl) (by kernel_rfl) (fun listed a' w' => a'.defers = [] /\ a'.tmps.size = 22 /\ (a'.eval (.tmp 1) = .pointer (some ⟨w.heap.size, 0, none⟩)) /\ ∃ gK g, (listed[0]? = some true -> (a'.eval (.tmp 6) = .func (Fn.func 41) #[] #[.pointer (some ⟨gK, 0, none⟩)]) /\ ((listed[2]? = some false -> w'.heap[gK]? = some (.cells #[.int .i8 17] 22 (0, 0))))) /\ (listed[1]? = some true -> (a'.eval (.tmp 7) = .agg (tC_ h p))) /\ (listed[2]? = some true -> (a'.eval (.tmp 8) = .pointer (some ⟨g, 0, none⟩)) /\ (w'.heap[g]? = some (.cells #[.int .i64 x.1, .int .i64 x.2, .string Ck.e0] 58 (0, 0))) /\ (w1.heap.size <= g)) /\ (listed[3]? = some true -> (a'.eval (.tmp 3) = .pointer (some ⟨g, 0, none⟩)) /\ (listed[2]? = some true)) /\ Below w1.heap.size w1 w') (fun _ _ _ h => h.1) ?_ ?_ ?_
  ·have hz := HZ.out
   refine ⟨rfl, rfl, rfl, 0, 0, FH, FH, FH, FH, (Below.refl _ _).drew⟩
  ·rintro listed a' w' i o ⟨hdf, hsz, hx, gK, g, y0, y1, y2, y3, hbw⟩ hz hsz0 ho hi hp
   have hi13 : i < 4 := by
    rcases Nat.lt_or_ge i 4 with q | q
    ·exact q
    ·exact jY
   rcases (by omega : i = 0 \/ i = 1 \/ i = 2 \/ i = 3) with rfl | rfl | rfl | rfl
   ·obtain rfl := SI ho
    refine C_ ho 6 (vL 17 w') fun e u hg => ?_
    ·obtain ⟨gK', he, hkb, hlo, hb⟩ := hg
     refine ⟨.func (Fn.func 41) #[] #[.pointer (some ⟨gK', 0, none⟩)], he, ?_⟩;have hbs := hbw.size;have hzz := HZ.out;have hbs2 := hb.size;exact ⟨pd hdf, ps hsz, KX hx, gK', g, (fun _ => ⟨pS hsz, (fun _ => hkb)⟩), K1 y1, K1 y2, K1 y3, hbw.trans (hb.mono hbw.size)⟩
   ·obtain rfl := SI ho
    obtain ⟨q0, q1, q2, q3, q4, q5, q6, q7, q8, q9, q10, -⟩ := HK.out w' hbw;exact V_ ho 7 ⟨pd hdf, ps hsz, KX hx, gK, g, (kF y0 (fun q => ⟨pn q.1, (kU q.2 (fun q => q))⟩)), (fun _ => pS hsz), K1 y2, K1 y3, hbw⟩
   ·obtain rfl := SI ho
    have v0 := hpv hp 0 (by simp);have ww0 := (y0 v0).1;have v1 := hpv hp 1 (by simp);have ww1 := (y1 v1);refine C_ ho 8 (CR.out gK w' hbw (((y0 v0).2) hi)) fun e u hg => ?_
    ·obtain ⟨g', rfl, hf, hgl, hb⟩ := hg
     refine ⟨.pointer (some ⟨g', 0, none⟩), rfl, ?_⟩;have hbs := hbw.size;have hzz := HZ.out;have hbs2 := hb.size;exact ⟨pd hdf, ps hsz, KX hx, gK, g', (kF y0 (fun q => ⟨pn q.1, (fun qu => (zK qu).elim)⟩)), K1 y1, (fun _ => ⟨pS hsz, hf, (Nat.le_trans hbw.size hgl)⟩), KN y3, hbw.trans (hb.mono hbw.size)⟩
   ·obtain rfl := SI ho
    have v2 := hpv hp 2 (by simp);have ww2 := (y2 v2).1;exact V_ ho 3 ⟨pd hdf, ps hsz, KX hx, gK, g, (kF y0 (fun q => ⟨pn q.1, (kU q.2 (fun q => q))⟩)), K1 y1, K1 y2, (fun _ => ⟨pS hsz, (z8 v2)⟩), hbw⟩
  ·rintro listed u w' t ht hu ⟨-, -, -, gK, g, y0, y1, y2, y3, hbw⟩ hall
   have v2 := hall 2 (by decide);have v3 := hall 3 (by decide);have HBW := k0_ hbw;have HF := k0_ ((y2 v2).2.1);have HGG := k0_ ((y2 v2).2.2);have e3 := ((y3 v3).1);rw [hu 3 (by decide) (by decide)] at e3;clear y0 y1 y2 y3 v2 v3 hall hu;clear hbw;simp only [over, List.setIfInBounds_toArray, List.set_cons_succ, List.set_cons_zero, e3] at ht;subst ht;clear e3
   go_wp2_with fail
   go_ret
   exact ⟨g, rfl, HF.out, Nat.le_trans HB1.out.size HGG.out, HB1.out.trans (HBW.out.mono HB1.out.size)⟩
 | none =>
  rw [hq] at CR;clear hq;obtain ⟨R, hR⟩ : ∃ R, St.fo h kids = R := ⟨_, rfl⟩
  rw [hR] at CF ⊢;clear hR
  go_enter Tryz.func11, Tryz.ntmps11
  go_upto_region 1 with fail
  rw [← HW1.out];clear hw1 HW1;refine zI 22 rfl [6, 7, 8, 3] (by kernel_rfl) (by kernel_rfl) (by kernel_rfl) (fun listed a' w' => a'.defers = [] /\ a'.tmps.size = 22 /\ (a'.eval (.tmp 1) = .pointer (some ⟨w.heap.size, 0, none⟩)) /\ ∃ gK, (listed[0]? = some true -> (a'.eval (.tmp 6) = .func (Fn.func 41) #[] #[.pointer (some ⟨gK, 0, none⟩)]) /\ ((listed[2]? = some false -> w'.heap[gK]? = some (.cells #[.int .i8 17] 22 (0, 0))))) /\ (listed[1]? = some true -> (a'.eval (.tmp 7) = .agg (tC_ h p))) /\ (listed[2]? = some true -> (a'.eval (.tmp 8) = .pointer none)) /\ (listed[3]? = some true -> (a'.eval (.tmp 3) = .pointer none)) /\ Below w1.heap.size w1 w') (fun _ _ _ h => h.1) ?_ ?_ ?_
  ·have hz := HZ.out
   refine ⟨rfl, rfl, rfl, 0, FH, FH, FH, FH, (Below.refl _ _).drew⟩
  ·rintro listed a' w' i o ⟨hdf, hsz, hx, gK, y0, y1, y2, y3, hbw⟩ hz hsz0 ho hi hp
   have hi13 : i < 4 := by
    rcases Nat.lt_or_ge i 4 with q | q
    ·exact q
    ·exact jY
   rcases (by omega : i = 0 \/ i = 1 \/ i = 2 \/ i = 3) with rfl | rfl | rfl | rfl
   ·obtain rfl := SI ho
    refine C_ ho 6 (vL 17 w') fun e u hg => ?_
    ·obtain ⟨gK', he, hkb, hlo, hb⟩ := hg
     refine ⟨.func (Fn.func 41) #[] #[.pointer (some ⟨gK', 0, none⟩)], he, ?_⟩;have hbs := hbw.size;have hzz := HZ.out;have hbs2 := hb.size;exact ⟨pd hdf, ps hsz, KX hx, gK', (fun _ => ⟨pS hsz, (fun _ => hkb)⟩), K1 y1, K1 y2, K1 y3, hbw.trans (hb.mono hbw.size)⟩
   ·obtain rfl := SI ho
    obtain ⟨q0, q1, q2, q3, q4, q5, q6, q7, q8, q9, q10, -⟩ := HK.out w' hbw;exact V_ ho 7 ⟨pd hdf, ps hsz, KX hx, gK, (kF y0 (fun q => ⟨pn q.1, (kU q.2 (fun q => q))⟩)), (fun _ => pS hsz), K1 y2, K1 y3, hbw⟩
   ·obtain rfl := SI ho
    have v0 := hpv hp 0 (by simp);have ww0 := (y0 v0).1;have v1 := hpv hp 1 (by simp);have ww1 := (y1 v1);refine C_ ho 8 (CR.out gK w' hbw (((y0 v0).2) hi)) fun e u hg => ?_
    ·obtain ⟨he, hb⟩ := hg
     refine ⟨.pointer none, he, ?_⟩;have hbs := hbw.size;have hzz := HZ.out;have hbs2 := hb.size;exact ⟨pd hdf, ps hsz, KX hx, gK, (kF y0 (fun q => ⟨pn q.1, (fun qu => (zK qu).elim)⟩)), K1 y1, (fun _ => pS hsz), K1 y3, hbw.trans (hb.mono hbw.size)⟩
   ·obtain rfl := SI ho
    have v2 := hpv hp 2 (by simp);have ww2 := (y2 v2);exact V_ ho 3 ⟨pd hdf, ps hsz, KX hx, gK, (kF y0 (fun q => ⟨pn q.1, (kU q.2 (fun q => q))⟩)), K1 y1, K1 y2, (fun _ => pS hsz), hbw⟩
  ·rintro listed u w' t ht hu ⟨-, -, -, gK, y0, y1, y2, y3, hbw⟩ hall
   have v3 := hall 3 (by decide);have HBW := k0_ hbw;have e3 := ((y3 v3));rw [hu 3 (by decide) (by decide)] at e3;clear y0 y1 y2 y3 v3 hall hu;clear hbw;simp only [over, List.setIfInBounds_toArray, List.set_cons_succ, List.set_cons_zero, e3] at ht;subst ht;clear e3;generalize hw : w' = w2 at *;clear hw;have HB2 := k0_ (HB1.out.trans (HBW.out.mono HB1.out.size));obtain ⟨q0, q1, q2, q3, q4, q5, q6, q7, q8, q9, q10, ql⟩ := HK.out w2 HBW.out
   go_wp2_with fail
   refine (CF.out _ HB2.out).mono ?_;rintro e u ⟨h2, p2, rfl, hx, hb⟩;have HB3 := kt_ HB2 hb;have hb3 := zO u (.cells (tC_ h2 p2) 28);have hn3 := k0_ (zD u (.cells (tC_ h2 p2) 28));have HB4 := kt_ HB3 hb3;have HXX := k0_ hx;clear hb hb3 hx q0 q1 q2 q3 q4 q5 q6 q7 q8 q9 q10 ql
   cases R with
   | none =>
    go_wp2_with fail
    go_ret
    exact ⟨rfl, HB4.out⟩
   | some x =>
    have hpx := HXX.out x rfl;subst hpx
    go_upto_region 6 with fail
    generalize hw9 : u.alloc (.cells (tC_ h2 p2) 28) = w9 at *;clear hw9;have HB5 := k0_ (HB4.out.alloc HB4.out.size (.cells #[.int .i64 110, .int .i64 h2.pos, .string ⟨#[]⟩] 58));have HF := k0_ (zD w9 (.cells #[.int .i64 110, .int .i64 h2.pos, .string ⟨#[]⟩] 58));have HS := k0_ HB4.out.size;obtain ⟨q0, q1, q2, q3, q4, q5, q6, q7, q8, q9, q10, ql⟩ := zJ hn3.out
    go_wp2_with fail
    go_ret
    exact ⟨w9.heap.size, rfl, HF.out, HS.out, HB5.out⟩
namespace St
def isStatic (h : Hd) (kids : Tm) : Bool := (ref h kids).isNone
end St
theorem uB (h : Hd) (kids : Tm) (p : Pl) (w : World) (hIs : Tm.Is w h kids p) (hG : TGlob w) :
  Calls Tryz.prog 8 #[.agg (tC_ h p)] w fun e w' => e = .returned (.bool (St.isStatic h kids)) /\ Below w.heap.size w w' := by
 try unfold tC_
 have HB1 := k0_ (zO w (.cells (tC_ h p) 28));have CR := k0_ (fun (W : World) (hb : Below w.heap.size w W) => kR h kids p W (hIs.below hb) (hG.below hb));clear hIs hG;unfold St.isStatic
 cases hq : St.ref h kids with
 | some x =>
  rw [hq] at CR;clear hq
  go_enter Tryz.func8, Tryz.ntmps8
  go_wp2_with fail
  refine (CR.out _ HB1.out).mono ?_;rintro e w2 ⟨g, rfl, hf, hg, hb2⟩;have HB2 := kt_ HB1 hb2;clear hb2 hf hg
  go_wp2_with fail
  go_ret
  exact ⟨rfl, HB2.out⟩
 | none =>
  rw [hq] at CR;clear hq
  go_enter Tryz.func8, Tryz.ntmps8
  go_wp2_with fail
  refine (CR.out _ HB1.out).mono ?_;rintro e w2 ⟨rfl, hb2⟩;have HB2 := kt_ HB1 hb2;clear hb2
  go_wp2_with fail
  go_ret
  exact ⟨rfl, HB2.out⟩
end Go.Proofs.YtglgjaomneljbaaGreatDoor
namespace Go.Proofs.YtglgjaomneljbaaGreatDoor
open Go.RowKit
def statRv : Cg.Rv where
 fr := 11
 cpt := #[]
 vg := .nilFunc
 fa := 17
 fm := 18
 ft := 19
 D := St.ops
 cfr := fun args W => by simp [go_sem]
 cfa := fun args W => by simp [go_sem]
 cfm := fun args W => by simp [go_sem]
 cft := fun args W => by simp [go_sem]
 agC := fun k kids A n c k' kids' A' n' c' w h1 h2 hS => zCt k kids A n c k' kids' A' n' c' w h1 h2 hS
 asC := fun Q kd a A n c w hkd hL hok _ => zA9 Q kd a A n c w hkd hL hok
 mtC := fun Q a A n c b A' n' c' w h1 _ _ _ => zBh Q a A n c b A' n' c' w h1
 gC := fun e => by cases e
namespace St
theorem zCx {h : Hd} {kids : Tm} (e : ref h kids = none) : (Tm.chk h kids = 0 /\ Ck.castT h kids = false) /\ fo h kids = none := by
 unfold ref at e
 cases hq : Ck.refO h kids with
 | some x => rw [hq] at e; cases e
 | none =>
  rw [hq] at e;refine ⟨by rw [Ck.zCy] at hq; rw [Ck.kJ]; exact Ck.zCz hq, ?_⟩
  cases hf : fo h kids with
  | none => rfl
  | some x => rw [hf] at e; cases e
end St
end Go.Proofs.YtglgjaomneljbaaGreatDoor
namespace Go.Proofs.YtglgjaomneljbaaGreatDoor
set_option maxHeartbeats 1000000
set_option maxRecDepth 100000
open Go.RowKit
theorem zBb (h : Hd) (p : Pl) (w : World) (a : Ck.T2)
  (hC : ∀ (W : World), Below w.heap.size w W -> Calls Tryz.prog 12 #[.agg #[.func (Fn.func 11) #[] #[], .func (Fn.func 17) #[] #[], .func (Fn.func 18) #[] #[], .func (Fn.func 19) #[] #[], .nilFunc], .agg (tC_ h p)] W (Ck.TyPost W (.ok a))) :
  Calls Tryz.prog 4 #[.agg (tC_ h p)] w (Ck.TyPost w (.ok a)) := by
 try unfold tC_
 have hB2 := zW w (.cells (tC_ h p) 28) (.cells #[.int .i8 0, .slice none 0 0] 25);obtain ⟨h0, h1⟩ := zS w (.cells (tC_ h p) 28) (.cells #[.int .i8 0, .slice none 0 0] 25);have hz : ((w.alloc (.cells (tC_ h p) 28)).alloc (.cells #[.int .i8 0, .slice none 0 0] 25)).heap.size = w.heap.size + 2 := by simp
 obtain ⟨w1, hw1⟩ : ∃ w1, w1 = (w.alloc (.cells (tC_ h p) 28)).alloc (.cells #[.int .i8 0, .slice none 0 0] 25) := ⟨_, rfl⟩
 rw [← hw1] at hB2 h0 h1 hz;have HW1 := k0_ hw1;have HZ := k0_ hz;have H2 := k0_ h1;have hfrom := k0_ (fun (W : World) (hb : Below w1.heap.size w1 W) => hB2.trans (hb.mono hB2.size));have CT := k0_ (fun (W : World) (hb : Below w1.heap.size w1 W) => hC W (hB2.trans (hb.mono hB2.size)));have HK := k0_ (fun (W : World) (hb : Below w1.heap.size w1 W) => (zJ (zA hb (zC h0) h0)));clear hB2 h0 h1 hz hC
 go_enter Tryz.func4, Tryz.ntmps4
 go_upto_region 1 with fail
 rw [← HW1.out];clear hw1 HW1;refine zI 9 rfl [4, 5, 6, 7, 8, 3] (by kernel_rfl) (by kernel_rfl) (by kernel_rfl) (fun listed a' w' => a'.defers = [] /\ a'.tmps.size = 9 /\ (a'.eval (.tmp 1) = .pointer (some ⟨w.heap.size, 0, none⟩) /\ a'.eval (.tmp 2) = .pointer (some ⟨w.heap.size + 1, 0, none⟩)) /\ ∃ G m c, (listed[0]? = some true -> (a'.eval (.tmp 4) = .agg #[.func (Fn.func 11) #[] #[], .func (Fn.func 17) #[] #[], .func (Fn.func 18) #[] #[], .func (Fn.func 19) #[] #[], .nilFunc])) /\ (listed[1]? = some true -> (a'.eval (.tmp 5) = .agg (tC_ h p))) /\ (listed[2]? = some true -> (a'.eval (.tmp 6) = .tuple #[.agg #[.int .i8 a.1, .slice G m c], .nilIface]) /\ (listed[0]? = some true) /\ (listed[1]? = some true) /\ (Ck.Ly (fun b => w1.heap.size <= b) w' a G m c)) /\ (listed[3]? = some true -> (a'.eval (.tmp 7) = .agg #[.int .i8 a.1, .slice G m c]) /\ (listed[0]? = some true) /\ (listed[1]? = some true) /\ (listed[2]? = some true)) /\ (listed[4]? = some true -> (a'.eval (.tmp 8) = .nilIface)) /\ (listed[5]? = some true -> (listed[0]? = some true) /\ (listed[1]? = some true) /\ (listed[2]? = some true) /\ (listed[3]? = some true) /\ (w'.heap[w.heap.size + 1]? = some (.cells #[.int .i8 a.1, .slice G m c] 25 (0, 0))) /\ (Below w.heap.size w w')) /\ (listed[6]? = some true -> (a'.eval (.tmp 3) = .nilIface)) /\ (listed[5]? = some false -> Below w1.heap.size w1 w')) (fun _ _ _ h => h.1) ?_ ?_ ?_
 ·have hz := HZ.out
  refine ⟨rfl, rfl, ⟨rfl, rfl⟩, none, 0, 0, FH, FH, FH, FH, FH, FH, FH, (fun _ => (Below.refl _ _).drew)⟩
 ·rintro listed a' w' i o ⟨hdf, hsz, hx, G, m, c, y0, y1, y2, y3, y4, y5, y6, hbw⟩ hz hsz0 ho hi hp
  have hi13 : i < 7 := by
   exact uw
  rcases (by omega : i = 0 \/ i = 1 \/ i = 2 \/ i = 3 \/ i = 4 \/ i = 5 \/ i = 6) with rfl | rfl | rfl | rfl | rfl | rfl | rfl
  ·obtain rfl := SI ho
   have hbw := hbw (nf (by rw [hz]; decide) (fun q => (y5 q).1) hi);refine C_ ho 4 (kQ 11 #[] w') fun e u hg => ?_
   ·obtain ⟨he, hb⟩ := hg
    refine ⟨.agg #[.func (Fn.func 11) #[] #[], .func (Fn.func 17) #[] #[], .func (Fn.func 18) #[] #[], .func (Fn.func 19) #[] #[], .nilFunc], he, ?_⟩;have hbs := hbw.size;have hzz := HZ.out;have hbs2 := hb.size;exact ⟨pd hdf, ps hsz, KX hx, G, m, c, (fun _ => pS hsz), K1 y1, KN y2, KN y3, K1 y4, KN y5, K1 y6, (fun _ => hbw.trans (hb.mono hbw.size))⟩
  ·obtain rfl := SI ho
   have hbu := hbw;have hbw := hbw (nf (by rw [hz]; decide) (fun q => (y5 q).2.1) hi);obtain ⟨q0, q1, q2, q3, q4, q5, q6, q7, q8, q9, q10, -⟩ := HK.out w' hbw;exact V_ ho 5 ⟨pd hdf, ps hsz, KX hx, G, m, c, K1 y0, (fun _ => pS hsz), KN y2, KN y3, K1 y4, KN y5, K1 y6, (kU hbu id)⟩
  ·obtain rfl := SI ho
   have v0 := hpv hp 0 (by simp);have ww0 := (y0 v0);have v1 := hpv hp 1 (by simp);have ww1 := (y1 v1);have hbw := hbw (nf (by rw [hz]; decide) (fun q => (y5 q).2.2.1) hi);refine C_ ho 6 (CT.out w' hbw) fun e u hg => ?_
   ·obtain ⟨G', m', c', rfl, hl, hb⟩ := hg
    refine ⟨.tuple #[.agg #[.int .i8 a.1, .slice G' m' c'], .nilIface], rfl, ?_⟩;have hbs := hbw.size;have hzz := HZ.out;have hbs2 := hb.size;exact ⟨pd hdf, ps hsz, KX hx, G', m', c', K1 y0, K1 y1, (fun _ => ⟨pS hsz, (z8 v0), (z8 v1), Ck.Ly.weak hl (fun b _ hq => Nat.le_trans hbw.size hq)⟩), KN y3, K1 y4, KN y5, K1 y6, (fun _ => hbw.trans (hb.mono hbw.size))⟩
  ·obtain rfl := SI ho
   have v2 := hpv hp 2 (by simp);have ww2 := (y2 v2).1;exact V_ ho 7 ⟨pd hdf, ps hsz, KX hx, G, m, c, K1 y0, K1 y1, K1 y2, (fun _ => ⟨pS hsz, (z8 ((y2 v2).2.1)), (z8 ((y2 v2).2.2.1)), (z8 v2)⟩), K1 y4, KN y5, K1 y6, (kU hbw id)⟩
  ·obtain rfl := SI ho
   have v2 := hpv hp 2 (by simp);have ww2 := (y2 v2).1;exact V_ ho 8 ⟨pd hdf, ps hsz, KX hx, G, m, c, K1 y0, K1 y1, K1 y2, K1 y3, (fun _ => pS hsz), K1 y5, K1 y6, (kU hbw id)⟩
  ·obtain rfl := SI ho
   have v3 := hpv hp 3 (by simp);have ww3 := (y3 v3).1;have hbw := hbw hi;have hbox := zA hbw (zC H2.out) H2.out;obtain ⟨bc0, bc1, bf0, bf1, -⟩ := zF hbox;refine zN ho rfl (zT rfl (w2 := (w'.setCell ⟨w.heap.size + 1, 0, none⟩ (.int .i8 a.1)).setCell ⟨w.heap.size + 1, 1, none⟩ (.slice G m c)) ?_ ?_)
   ·exact EV
   ·have hsa : ((w'.setCell ⟨w.heap.size + 1, 0, none⟩ (.int .i8 a.1)).setCell ⟨w.heap.size + 1, 1, none⟩ (.slice G m c)).heap.size = w'.heap.size := by simp
    have hbs := hbw.size;have hzz := HZ.out;exact ⟨hdf, hsz, hx, G, m, c, K1 y0, K1 y1, K1 y2, K1 y3, K1 y4, (fun _ => ⟨(z8 ((y3 v3).2.1)), (z8 ((y3 v3).2.2.1)), (z8 ((y3 v3).2.2.2)), (z8 v3), zL hbox _ _, zG (hfrom.out w' hbw) (by omega) _ _⟩), K1 y6, (fun qu => (zK qu).elim)⟩
  ·obtain rfl := SI ho
   have v4 := hpv hp 4 (by simp);have ww4 := (y4 v4);exact V_ ho 3 ⟨pd hdf, ps hsz, KX hx, G, m, c, K1 y0, K1 y1, K1 y2, K1 y3, K1 y4, K1 y5, (fun _ => pS hsz), (kU hbw id)⟩
 ·rintro listed u w' t ht hu ⟨-, -, -, G, m, c, y0, y1, y2, y3, y4, y5, y6, hbw⟩ hall
  have v2 := hall 2 (by decide);have v5 := hall 5 (by decide);have v6 := hall 6 (by decide);have HBX := k0_ ((y5 v5).2.2.2.2.2);have hl := ((y2 v2).2.2.2);have hx := ((y5 v5).2.2.2.2.1);have e3 := ((y6 v6));rw [hu 3 (by decide) (by decide)] at e3;clear y0 y1 y2 y3 y4 y5 y6 v2 v5 v6 hall hu;clear hbw;simp only [over, List.setIfInBounds_toArray, List.set_cons_succ, List.set_cons_zero] at ht;subst ht;obtain ⟨k0, k1', -, -, -⟩ := zF hx;have hz := HZ.out
  go_wp2_with fail
  refine ⟨rfl, .tuple #[.agg #[.int .i8 a.1, .slice G m c], .nilIface], by simp [results, Tryz.results4, go_sem, k0, k1', e3], ?_⟩;exact ⟨G, m, c, rfl, hl.weak (fun b _ hq => by have h1 : w1.heap.size <= b := hq; show w.heap.size <= b; omega), HBX.out⟩
theorem zA7 (h : Hd) (p : Pl) (w : World) (E at' : Int) (x : ByteArray)
  (hC : ∀ (W : World), Below w.heap.size w W -> Calls Tryz.prog 12 #[.agg #[.func (Fn.func 11) #[] #[], .func (Fn.func 17) #[] #[], .func (Fn.func 18) #[] #[], .func (Fn.func 19) #[] #[], .nilFunc], .agg (tC_ h p)] W (Ck.TyPost W (.bad E at' x))) :
  Calls Tryz.prog 4 #[.agg (tC_ h p)] w (Ck.TyPost w (.bad E at' x)) := by
 try unfold tC_
 have hB2 := zW w (.cells (tC_ h p) 28) (.cells #[.int .i8 0, .slice none 0 0] 25);obtain ⟨h0, h1⟩ := zS w (.cells (tC_ h p) 28) (.cells #[.int .i8 0, .slice none 0 0] 25);have hz : ((w.alloc (.cells (tC_ h p) 28)).alloc (.cells #[.int .i8 0, .slice none 0 0] 25)).heap.size = w.heap.size + 2 := by simp
 obtain ⟨w1, hw1⟩ : ∃ w1, w1 = (w.alloc (.cells (tC_ h p) 28)).alloc (.cells #[.int .i8 0, .slice none 0 0] 25) := ⟨_, rfl⟩
 rw [← hw1] at hB2 h0 h1 hz;have HW1 := k0_ hw1;have HZ := k0_ hz;have H2 := k0_ h1;have hfrom := k0_ (fun (W : World) (hb : Below w1.heap.size w1 W) => hB2.trans (hb.mono hB2.size));have CT := k0_ (fun (W : World) (hb : Below w1.heap.size w1 W) => hC W (hB2.trans (hb.mono hB2.size)));have HK := k0_ (fun (W : World) (hb : Below w1.heap.size w1 W) => (zJ (zA hb (zC h0) h0)));clear hB2 h0 h1 hz hC
 go_enter Tryz.func4, Tryz.ntmps4
 go_upto_region 1 with fail
 rw [← HW1.out];clear hw1 HW1;refine zI 9 rfl [4, 5, 6, 7, 8, 3] (by kernel_rfl) (by kernel_rfl) (by kernel_rfl) (fun listed a' w' => a'.defers = [] /\ a'.tmps.size = 9 /\ (a'.eval (.tmp 1) = .pointer (some ⟨w.heap.size, 0, none⟩) /\ a'.eval (.tmp 2) = .pointer (some ⟨w.heap.size + 1, 0, none⟩)) /\ ∃ g, (listed[0]? = some true -> (a'.eval (.tmp 4) = .agg #[.func (Fn.func 11) #[] #[], .func (Fn.func 17) #[] #[], .func (Fn.func 18) #[] #[], .func (Fn.func 19) #[] #[], .nilFunc])) /\ (listed[1]? = some true -> (a'.eval (.tmp 5) = .agg (tC_ h p))) /\ (listed[2]? = some true -> (a'.eval (.tmp 6) = .tuple #[.agg #[.int .i8 0, .slice none 0 0], .iface 53 (.pointer (some ⟨g, 0, none⟩))]) /\ (listed[0]? = some true) /\ (listed[1]? = some true) /\ (w'.heap[g]? = some (.cells #[.int .i64 E, .int .i64 at', .string x] 58 (0, 0))) /\ (w1.heap.size <= g)) /\ (listed[3]? = some true -> (a'.eval (.tmp 7) = .agg #[.int .i8 0, .slice none 0 0]) /\ (listed[0]? = some true) /\ (listed[1]? = some true) /\ (listed[2]? = some true)) /\ (listed[4]? = some true -> (a'.eval (.tmp 8) = .iface 53 (.pointer (some ⟨g, 0, none⟩))) /\ (listed[2]? = some true)) /\ (listed[5]? = some true -> (listed[0]? = some true) /\ (listed[1]? = some true) /\ (listed[2]? = some true) /\ (listed[3]? = some true) /\ (w'.heap[w.heap.size + 1]? = some (.cells #[.int .i8 0, .slice none 0 0] 25 (0, 0))) /\ (Below w.heap.size w w')) /\ (listed[6]? = some true -> (a'.eval (.tmp 3) = .iface 53 (.pointer (some ⟨g, 0, none⟩))) /\ (listed[2]? = some true)) /\ (listed[5]? = some false -> Below w1.heap.size w1 w')) (fun _ _ _ h => h.1) ?_ ?_ ?_
 ·have hz := HZ.out
  refine ⟨rfl, rfl, ⟨rfl, rfl⟩, 0, FH, FH, FH, FH, FH, FH, FH, (fun _ => (Below.refl _ _).drew)⟩
 ·rintro listed a' w' i o ⟨hdf, hsz, hx, g, y0, y1, y2, y3, y4, y5, y6, hbw⟩ hz hsz0 ho hi hp
  have hi13 : i < 7 := by
   exact uw
  rcases (by omega : i = 0 \/ i = 1 \/ i = 2 \/ i = 3 \/ i = 4 \/ i = 5 \/ i = 6) with rfl | rfl | rfl | rfl | rfl | rfl | rfl
  ·obtain rfl := SI ho
   have hbw := hbw (nf (by rw [hz]; decide) (fun q => (y5 q).1) hi);refine C_ ho 4 (kQ 11 #[] w') fun e u hg => ?_
   ·obtain ⟨he, hb⟩ := hg
    refine ⟨.agg #[.func (Fn.func 11) #[] #[], .func (Fn.func 17) #[] #[], .func (Fn.func 18) #[] #[], .func (Fn.func 19) #[] #[], .nilFunc], he, ?_⟩;have hbs := hbw.size;have hzz := HZ.out;have hbs2 := hb.size;exact ⟨pd hdf, ps hsz, KX hx, g, (fun _ => pS hsz), K1 y1, KN y2, KN y3, K1 y4, KN y5, K1 y6, (fun _ => hbw.trans (hb.mono hbw.size))⟩
  ·obtain rfl := SI ho
   have hbu := hbw;have hbw := hbw (nf (by rw [hz]; decide) (fun q => (y5 q).2.1) hi);obtain ⟨q0, q1, q2, q3, q4, q5, q6, q7, q8, q9, q10, -⟩ := HK.out w' hbw;exact V_ ho 5 ⟨pd hdf, ps hsz, KX hx, g, K1 y0, (fun _ => pS hsz), KN y2, KN y3, K1 y4, KN y5, K1 y6, (kU hbu id)⟩
  ·obtain rfl := SI ho
   have v0 := hpv hp 0 (by simp);have ww0 := (y0 v0);have v1 := hpv hp 1 (by simp);have ww1 := (y1 v1);have hbw := hbw (nf (by rw [hz]; decide) (fun q => (y5 q).2.2.1) hi);refine C_ ho 6 (CT.out w' hbw) fun e u hg => ?_
   ·obtain ⟨g', rfl, hf, hg, hb⟩ := hg
    refine ⟨.tuple #[.agg #[.int .i8 0, .slice none 0 0], .iface 53 (.pointer (some ⟨g', 0, none⟩))], rfl, ?_⟩;have hbs := hbw.size;have hzz := HZ.out;have hbs2 := hb.size;exact ⟨pd hdf, ps hsz, KX hx, g', K1 y0, K1 y1, (fun _ => ⟨pS hsz, (z8 v0), (z8 v1), hf, (Nat.le_trans hbw.size hg)⟩), KN y3, KN y4, KN y5, KN y6, (fun _ => hbw.trans (hb.mono hbw.size))⟩
  ·obtain rfl := SI ho
   have v2 := hpv hp 2 (by simp);have ww2 := (y2 v2).1;exact V_ ho 7 ⟨pd hdf, ps hsz, KX hx, g, K1 y0, K1 y1, K1 y2, (fun _ => ⟨pS hsz, (z8 ((y2 v2).2.1)), (z8 ((y2 v2).2.2.1)), (z8 v2)⟩), K1 y4, KN y5, K1 y6, (kU hbw id)⟩
  ·obtain rfl := SI ho
   have v2 := hpv hp 2 (by simp);have ww2 := (y2 v2).1;exact V_ ho 8 ⟨pd hdf, ps hsz, KX hx, g, K1 y0, K1 y1, K1 y2, K1 y3, (fun _ => ⟨pS hsz, (z8 v2)⟩), K1 y5, K1 y6, (kU hbw id)⟩
  ·obtain rfl := SI ho
   have v3 := hpv hp 3 (by simp);have ww3 := (y3 v3).1;have hbw := hbw hi;have hbox := zA hbw (zC H2.out) H2.out;obtain ⟨bc0, bc1, bf0, bf1, -⟩ := zF hbox;refine zN ho rfl (zT rfl (w2 := (w'.setCell ⟨w.heap.size + 1, 0, none⟩ (.int .i8 0)).setCell ⟨w.heap.size + 1, 1, none⟩ (.slice none 0 0)) ?_ ?_)
   ·exact EV
   ·have hsa : ((w'.setCell ⟨w.heap.size + 1, 0, none⟩ (.int .i8 0)).setCell ⟨w.heap.size + 1, 1, none⟩ (.slice none 0 0)).heap.size = w'.heap.size := by simp
    have hbs := hbw.size;have hzz := HZ.out;exact ⟨hdf, hsz, hx, g, K1 y0, K1 y1, (kF y2 (fun q => ⟨q.1, z8 q.2.1, z8 q.2.2.1, (zM q.2.2.2.1 (by omega) _ _), q.2.2.2.2⟩)), K1 y3, K1 y4, (fun _ => ⟨(z8 ((y3 v3).2.1)), (z8 ((y3 v3).2.2.1)), (z8 ((y3 v3).2.2.2)), (z8 v3), zL hbox _ _, zG (hfrom.out w' hbw) (by omega) _ _⟩), K1 y6, (fun qu => (zK qu).elim)⟩
  ·obtain rfl := SI ho
   have v4 := hpv hp 4 (by simp);have ww4 := (y4 v4).1;exact V_ ho 3 ⟨pd hdf, ps hsz, KX hx, g, K1 y0, K1 y1, K1 y2, K1 y3, K1 y4, K1 y5, (fun _ => ⟨pS hsz, (z8 ((y4 v4).2))⟩), (kU hbw id)⟩
 ·rintro listed u w' t ht hu ⟨-, -, -, g, y0, y1, y2, y3, y4, y5, y6, hbw⟩ hall
  have v2 := hall 2 (by decide);have v5 := hall 5 (by decide);have v6 := hall 6 (by decide);have HBX := k0_ ((y5 v5).2.2.2.2.2);have hf := ((y2 v2).2.2.2.1);have hg := ((y2 v2).2.2.2.2);have hx := ((y5 v5).2.2.2.2.1);have e3 := ((y6 v6).1);rw [hu 3 (by decide) (by decide)] at e3;clear y0 y1 y2 y3 y4 y5 y6 v2 v5 v6 hall hu;clear hbw;simp only [over, List.setIfInBounds_toArray, List.set_cons_succ, List.set_cons_zero] at ht;subst ht;obtain ⟨k0, k1', -, -, -⟩ := zF hx;have hz := HZ.out;have HF := k0_ hf;clear hf
  go_wp2_with fail
  refine ⟨rfl, .tuple #[.agg #[.int .i8 0, .slice none 0 0], .iface 53 (.pointer (some ⟨g, 0, none⟩))], by simp [results, Tryz.results4, go_sem, k0, k1', e3], ?_⟩;exact ⟨g, rfl, HF.out, (by omega), HBX.out⟩
theorem zBc (h : Hd) (p : Pl) (w : World) (R : Ck.R) (hC : ∀ (W : World), Below w.heap.size w W -> Calls Tryz.prog 12 #[.agg #[.func (Fn.func 11) #[] #[], .func (Fn.func 17) #[] #[], .func (Fn.func 18) #[] #[], .func (Fn.func 19) #[] #[], .nilFunc], .agg (tC_ h p)] W (Ck.TyPost W R)) :
  Calls Tryz.prog 4 #[.agg (tC_ h p)] w (Ck.TyPost w R) := by
 try unfold tC_
 cases R with
 | ok a => exact zBb h p w a hC
 | bad E at' x => exact zA7 h p w E at' x hC
theorem zA8 (h : Hd) (kids : Tm) (p : Pl) (w : World) (hIs : Tm.Is w h kids p) (hG : TGlob w) :
  Calls Tryz.prog 4 #[.agg (tC_ h p)] w (Ck.TyPost w (Cg.tellR St.ops (St.ref h kids) h kids)) := by
 try unfold tC_
 refine zBc h p w _ fun W hb => ?_
 exact zBq statRv h kids p W (St.ref h kids) (hIs.below hb) (hG.below hb) (fun e => ⟨(St.zCx e).1.1, .inr (St.zCx e).1.2⟩) (fun U hu => kR h kids p U ((hIs.below hb).below hu) ((hG.below hb).below hu))
set_option maxHeartbeats 8000000
set_option maxRecDepth 100000
open Go.RowKit
namespace Qr
def knw (h : Hd) : Bool := (!Tm.hasType h.kind || Ty.knownT h.tk h.tkids) && (!Tm.hasTo h.kind || Ty.knownT h.uk h.ukids)
theorem zEI {h : Hd} (_hk : h.kind ≠ 17) : knw h = !St.opn h := by
 unfold knw St.opn St.anno Tm.tys
 by_cases ht : Tm.hasType h.kind = true
 ·by_cases hu : Tm.hasTo h.kind = true
  ·rw [if_pos ht, if_pos hu]; simp [ht, hu, Ty.anyF, St.opnK]
  ·rw [if_pos ht, if_neg hu]; simp [ht, hu, Ty.anyF, St.opnK]
 ·have hu : Tm.hasTo h.kind = false := by
   cases q : Tm.hasTo h.kind
   ·rfl
   ·exact (ht (Tm.vN q)).elim
  rw [if_neg ht]; simp [ht, hu, Ty.anyF]
end Qr
namespace Qr
theorem yF {h : Hd} {kids : Tm} : Ck.refO h kids = if snd h kids = 0 then none else some (snd h kids, 0) := by
 by_cases h0 : Tm.chk h kids = 0
 ·cases hc : Ck.castT h kids
  ·rw [zEs h0 hc]; unfold Ck.refO Ck.refu; simp [h0, hc]
  ·rw [u6 h0 hc]; unfold Ck.refO Ck.refu; simp [h0, hc]
 ·rw [zBE h0, if_neg (by omega)]; unfold Ck.refO Ck.refu; simp [h0]
theorem zA6 {h : Hd} {kids : Tm} : (snd h kids = 0 -> St.isStatic h kids = !(St.fo h kids).isSome) /\ (snd h kids ≠ 0 -> St.isStatic h kids = false) := by
 constructor
 ·intro e
  unfold St.isStatic St.ref;rw [yF, if_pos e];cases St.fo h kids <;> rfl
 ·intro e
  unfold St.isStatic St.ref;rw [yF, if_neg e]; rfl
theorem zBY {h : Hd} {kids : Tm} : Cg.tellR St.ops (St.ref h kids) h kids = if snd h kids = 0 then (match St.fo h kids with | some x => .bad 110 x ⟨#[]⟩ | none => Cg.ty St.ops (Tm.nodes kids + 1) h kids []) else .bad (snd h kids) 0 ⟨#[]⟩ := by
 unfold Cg.tellR;unfold St.ref;rw [yF]
 by_cases e : snd h kids = 0
 ·rw [if_pos e, if_pos e]
  cases St.fo h kids <;> rfl
 ·rw [if_neg e, if_neg e]; rfl
end Qr
theorem zAX (h : Hd) (p : Pl) (w : World) (hT : Ty.Is w h.tk h.tkids p.TA p.tn p.tc) (hU : Ty.Is w h.uk h.ukids p.UA p.un p.uc) :
  Calls Tryz.prog 27 #[.agg (tC_ h p)] w fun e w' => e = .returned (.bool (Qr.knw h)) /\ Below w.heap.size w w' := by
 try unfold tC_
 have hb0 := zO w (.cells (tC_ h p) 28);have x0 := zD w (.cells (tC_ h p) 28);generalize hw1 : w.alloc (.cells (tC_ h p) 28) = w1 at *;have HW1 := k0_ hw1;have HB := k0_ hb0;have HX := k0_ x0;have CT := k0_ (fun (W : World) (hb : Below w1.heap.size w1 W) => xD h.tk h.tkids p.TA p.tn p.tc W ((hT.below hb0).below hb));have CU := k0_ (fun (W : World) (hb : Below w1.heap.size w1 W) => xD h.uk h.ukids p.UA p.un p.uc W ((hU.below hb0).below hb));have hHT := zX h.kind;have hHU := ze h.kind;obtain ⟨R, hR⟩ : ∃ R, Qr.knw h = R := ⟨_, rfl⟩
 rw [hR];unfold Qr.knw at hR;generalize Tm.hasType h.kind = a at *;generalize Tm.hasTo h.kind = b at *;generalize Ty.knownT h.tk h.tkids = c at *;generalize Ty.knownT h.uk h.ukids = d at *;clear hw1 hb0 x0 hT hU;cases a
 ·go_enter Tryz.func27, Tryz.ntmps27
  go_upto_region 1 with fail
  rw [HW1.out];obtain ⟨q0, q1, q2, q3, q4, q5, q6, q7, q8, q9, q10, ql⟩ := zJ HX.out;cases b
  ·go_wp2_with (first | (go_at_call 53; refine (hHT _).mono ?_; rintro e w9 ⟨rfl, rfl⟩) | (go_at_call 55; refine (hHU _).mono ?_; rintro e w9 ⟨rfl, rfl⟩))
   go_ret
   exact ⟨qQ (by rw [← hR]; rfl), HB.out.trans ((Below.refl w1.heap.size w1).mono HB.out.size)⟩
  ·go_wp2_with (first | (go_at_call 53; refine (hHT _).mono ?_; rintro e w9 ⟨rfl, rfl⟩) | (go_at_call 55; refine (hHU _).mono ?_; rintro e w9 ⟨rfl, rfl⟩))
   refine (CU.out w1 (Below.refl w1.heap.size w1)).mono ?_;rintro e w4 ⟨rfl, hb⟩;have HB4 := k0_ ((Below.refl w1.heap.size w1).trans (hb.mono (Below.refl w1.heap.size w1).size));exact zG1
 ·cases c
  ·go_enter Tryz.func27, Tryz.ntmps27
   go_upto_region 1 with fail
   rw [HW1.out];obtain ⟨q0, q1, q2, q3, q4, q5, q6, q7, q8, q9, q10, ql⟩ := zJ HX.out
   go_wp2_with (first | (go_at_call 53; refine (hHT _).mono ?_; rintro e w9 ⟨rfl, rfl⟩) | (go_at_call 55; refine (hHU _).mono ?_; rintro e w9 ⟨rfl, rfl⟩))
   refine (CT.out w1 (Below.refl w1.heap.size w1)).mono ?_;rintro e w3 ⟨rfl, hb⟩;have HB3 := k0_ hb;clear hb q0 q1 q2 q3 q4 q5 q6 q7 q8 q9 q10 ql;exact zFs
  ·go_enter Tryz.func27, Tryz.ntmps27
   go_upto_region 1 with fail
   rw [HW1.out];obtain ⟨q0, q1, q2, q3, q4, q5, q6, q7, q8, q9, q10, ql⟩ := zJ HX.out
   go_wp2_with (first | (go_at_call 53; refine (hHT _).mono ?_; rintro e w9 ⟨rfl, rfl⟩) | (go_at_call 55; refine (hHU _).mono ?_; rintro e w9 ⟨rfl, rfl⟩))
   refine (CT.out w1 (Below.refl w1.heap.size w1)).mono ?_;rintro e w3 ⟨rfl, hb⟩;have HB3 := k0_ hb;clear hb q0 q1 q2 q3 q4 q5 q6 q7 q8 q9 q10 ql;obtain ⟨q0, q1, q2, q3, q4, q5, q6, q7, q8, q9, q10, ql⟩ := zJ (zA HB3.out (zC HX.out) HX.out);cases b
   ·exact zFs
   ·go_wp2_with (first | (go_at_call 53; refine (hHT _).mono ?_; rintro e w9 ⟨rfl, rfl⟩) | (go_at_call 55; refine (hHU _).mono ?_; rintro e w9 ⟨rfl, rfl⟩))
    refine (CU.out w3 HB3.out).mono ?_;rintro e w4 ⟨rfl, hb⟩;have HB4 := kt_ HB3 hb;exact zG1
theorem xE (K : Nat) : ∀ (h : Hd) (kids : Tm) (p : Pl) (w : World), Tm.nodes kids < K -> Tm.Is w h kids p -> Ck.castT h kids = false ->
  Calls Tryz.prog 14 #[.agg (tC_ h p)] w fun e w' => e = .returned (.tuple #[.int .i64 ((St.fo h kids).getD 0), .bool (St.fo h kids).isSome]) /\ Below w.heap.size w w' := by
 try unfold tC_
 induction K with
 | zero => intro _ _ _ _ hK; omega
 | succ K ih =>
  intro h kids p w hK hIs hc;obtain ⟨hk17, hcF⟩ := Ck.qb hc;have hB0 : Below w.heap.size w (w.alloc (.cells (tC_ h p) 28)) := (Below.refl _ _).alloc (Nat.le_refl _) _;have hbox := zD w (.cells (tC_ h p) 28);generalize hw1 : w.alloc (.cells (tC_ h p) 28) = w1 at *;have HW := k0_ hw1;have HB := k0_ hB0;have HX := k0_ hbox;have IH := k0_ ih;have i5 : (p.n : Int) <= 9223372036854775807 := by have h1 := hIs.fit.n_le; have h2 := hIs.fit.c_le; unfold maxLen at h2; omega
  have HK1 := k0_ (zAX h p w1 (hIs.below hB0).fit.ty (hIs.below hB0).fit.to);rw [Qr.zEI hk17] at HK1;have HST := k0_ (OverT.start (hIs.below hB0).lies hIs.fit.n_eq);obtain ⟨q0, q1, q2, q3, q4, q5, q6, q7, q8, q9, q10, ql⟩ := zJ HX.out;clear ih hIs hB0 hbox hw1 hc;cases ho : St.opn h
  ·obtain ⟨R, hR⟩ : ∃ R, St.foF kids = R := ⟨_, rfl⟩
   rw [show St.fo h kids = R by unfold St.fo; rw [ho, hR]; rfl];have HR := k0_ hR;have HCF := k0_ hcF;rw [ho] at HK1;clear hR ho hcF
   go_enter Tryz.func14, Tryz.ntmps14
   go_wp2_with fail
   rw [HW.out]
   go_wp2_with fail
   refine HK1.out.mono ?_;rintro e w2 ⟨rfl, hb2⟩;have HB2 := k0_ hb2;have HO2 := k0_ (⟨HST.out.i_eq, Tm.Lies.below HST.out.lies hb2, HST.out.sub, hb2⟩ : OverT w1 w2 p.A p.n (Tm.nodes kids) 0 kids);clear q0 q1 q2 q3 q4 q5 q6 q7 q8 q9 q10 ql hb2
   go_wp2_with fail
   go_loopw [4] (fun v wr => ∃ (i : Nat) (rest : Tm), v = .int .i64 i /\ OverT w1 wr p.A p.n (Tm.nodes kids) i rest /\ St.foF rest = R /\ Ck.castF rest = false) (fun v _ => p.n - (intOf v).toNat)
   case atStart => exact ⟨0, kids, rfl, HO2.out, HR.out, HCF.out⟩
   case round =>
    obtain ⟨i, rest, rfl, hO, hR, hcr⟩ := hrel;have hbB := HB.out.trans (hO.below.mono HB.out.size);obtain ⟨q0, q1, q2, q3, q4, q5, q6, q7, q8, q9, q10, ql⟩ := zJ (zA hO.below (zC HX.out) HX.out)
    cases rest with
    | nil =>
     have hi : i = p.n := by have := hO.i_eq; simpa [Tm.len] using this
     clear hO;simp only [St.foF] at hR;subst hi;subst hR
     go_wp2_with fail
     refine bodyPost_ret (v := .tuple #[.int .i64 0, .bool false]) (by simp [results, Tryz.results14, go_sem]) rfl ⟨rfl, hbB⟩
    | node h1 kd r =>
     have hst := fun w2 hb => OverT.step (w2 := w2) hO hb
     have e1 := hO.i_eq;have e2 := hO.lies;have e3 := hO.sub;simp only [Ck.castF, Bool.or_eq_false_iff] at hcr;simp only [Tm.len, Tm.nodes] at e1 e3;rw [St.uU] at hR;obtain ⟨bb, oo, p1, hpA, hcs, hfit, hl3, hl4⟩ := e2;have hcall := IH.out h1 kd p1 wr (by omega) ⟨hfit, hl3⟩ (by unfold Ck.castT; rw [hcr.1.1, hcr.1.2]; rfl);obtain ⟨c0, c1, c2, c3, c4, c5, c6, c7, c8, c9, c10⟩ := Tm.row hcs;have HS1 := k0_ hst;have HL := k0_ hl4;have HRR := k0_ hR;have HCR := k0_ hcr.2;have j1 : (0 : Int) <= (i : Int) /\ (i : Int) < p.n := by omega
     have HPA := k0_ hpA;clear hst hl3 hl4 hO hR hcs hfit hpA hcr;generalize St.fo h1 kd = x at *;have HCK := k0_ hcall;clear hcall;generalize hPA : p.A = PA at *;obtain rfl : PA = some ⟨bb, oo, none⟩ := HPA.out;clear hPA HPA
     cases x with
     | none =>
      go_wp2_with fail
      refine HCK.out.mono ?_;rintro e w2 ⟨rfl, hb⟩;have hbb := k0_ (HS1.out w2 hb HL.out);have HNX := k0_ (show St.foF r = R from HRR.out);clear hb q0 q1 q2 q3 q4 q5 q6 q7 q8 q9 q10 ql c0 c1 c2 c3 c4 c5 c6 c7 c8 c9 c10
      go_wp2_with fail
      go_roundw
      case rel => exact ⟨i + 1, r, by go_num, hbb.out, HNX.out, HCR.out⟩
      case measure => simp [intOf]; omega
     | some y =>
      obtain rfl : R = some y := HRR.out.symm
      go_wp2_with fail
      refine HCK.out.mono ?_;rintro e w2 ⟨rfl, hb⟩
      go_wp2_with fail
      refine bodyPost_ret (v := .tuple #[.int .i64 y, .bool true]) (by simp [results, Tryz.results14, go_sem]) rfl ⟨rfl, hbB.trans (hb.mono hbB.size)⟩
  ·rw [show St.fo h kids = some h.pos by unfold St.fo; rw [ho]; rfl]
   rw [ho] at HK1
   go_enter Tryz.func14, Tryz.ntmps14
   go_wp2_with fail
   rw [HW.out]
   go_wp2_with fail
   refine HK1.out.mono ?_;rintro e w2 ⟨rfl, hb2⟩;clear q0 q1 q2 q3 q4 q5 q6 q7 q8 q9 q10 ql;obtain ⟨q0, q1, q2, q3, q4, q5, q6, q7, q8, q9, q10, ql⟩ := zJ (zA hb2 (zC HX.out) HX.out)
   go_wp2_with fail
   refine bodyPost_ret (v := .tuple #[.int .i64 h.pos, .bool true]) (by simp [results, Tryz.results14, go_sem]) rfl ⟨rfl, HB.out.trans (hb2.mono HB.out.size)⟩
theorem uJ (h : Hd) (kids : Tm) (p : Pl) (w : World) (hIs : Tm.Is w h kids p) :
  Calls Tryz.prog 9 #[.agg (tC_ h p)] w fun e w' => e = .returned (.bool (St.isStatic h kids)) /\ Below w.heap.size w w' := by
 try unfold tC_
 have hb0 := zO w (.cells (tC_ h p) 28);have x0 := zD w (.cells (tC_ h p) 28);generalize hw1 : w.alloc (.cells (tC_ h p) 28) = w1 at *;have HW1 := k0_ hw1;have HB := k0_ hb0;have HX := k0_ x0;have CS := k0_ (yI h kids p w1 (hIs.below hb0));have CO := k0_ (fun (W : World) (hb : Below w1.heap.size w1 W) (hc : Ck.castT h kids = false) => xE (Tm.nodes kids + 1) h kids p W (Nat.lt_succ_self _) ((hIs.below hb0).below hb) hc);have HS := k0_ (Qr.zA6 (h := h) (kids := kids));generalize St.isStatic h kids = R at *;clear hw1 hb0 x0 hIs;obtain ⟨q0, q1, q2, q3, q4, q5, q6, q7, q8, q9, q10, ql⟩ := zJ HX.out
 by_cases hs : Qr.snd h kids = 0
 ·have CO2 := k0_ (fun (W : World) (hb : Below w1.heap.size w1 W) => CO.out W hb (Qr.jS hs).2)
  have hr := HS.out.1 hs;rw [hs] at CS;generalize St.fo h kids = F at *;subst hr;clear hs CO HS
  go_enter Tryz.func9, Tryz.ntmps9
  go_upto_region 1 with fail
  rw [HW1.out]
  go_wp2_with fail
  refine CS.out.mono ?_;rintro e w2 ⟨rfl, hb2⟩;have HB2 := k0_ hb2;clear hb2 q0 q1 q2 q3 q4 q5 q6 q7 q8 q9 q10 ql;obtain ⟨q0, q1, q2, q3, q4, q5, q6, q7, q8, q9, q10, ql⟩ := zJ (zA HB2.out (zC HX.out) HX.out)
  go_wp2_with fail
  refine (CO2.out w2 HB2.out).mono ?_;rintro e w3 ⟨rfl, hb3⟩;have HB3 := kt_ HB2 hb3;clear hb3;cases F
  all_goals
   go_wp2_with fail
   go_ret
   exact ⟨rfl, HB.out.trans (HB3.out.mono HB.out.size)⟩
 ·have hr := HS.out.2 hs
  subst hr;have hne : (Qr.snd h kids != 0) = true := by simpa using hs
  generalize Qr.snd h kids = S at *;clear CO HS hs
  go_enter Tryz.func9, Tryz.ntmps9
  go_upto_region 1 with fail
  rw [HW1.out]
  go_wp2_with fail
  refine CS.out.mono ?_;rintro e w2 ⟨rfl, hb2⟩;have HB2 := k0_ hb2;clear hb2 q0 q1 q2 q3 q4 q5 q6 q7 q8 q9 q10 ql
  go_wp2_with fail
  go_ret
  exact ⟨rfl, HB.out.trans (HB2.out.mono HB.out.size)⟩
end Go.Proofs.YtglgjaomneljbaaGreatDoor
namespace Go.Proofs.YtglgjaomneljbaaGreatDoor
open Go.RowKit
set_option maxHeartbeats 8000000 in
set_option maxRecDepth 100000 in
theorem uK (h : Hd) (kids : Tm) (p : Pl) (w : World) (hIs : Tm.Is w h kids p) :
  Calls Tryz.prog 5 #[.agg (tC_ h p)] w (Qr.Post (fun b => b < w.heap.size) w (Cg.tellR St.ops (St.ref h kids) h kids)) := by
 try unfold tC_
 rw [Qr.zBY];obtain ⟨b1, w1, hw1, hb0, g0, hb1, h6, h7, hzb, hz⟩ := Qr.three w (.cells (tC_ h p) 28);have HW1 := k0_ hw1;have HB0 := k0_ hb0;have H0 := k0_ g0;have HBW := k0_ hb1;have H6 := k0_ h6;have H7 := k0_ h7;have HZB := k0_ hzb;have HZ := k0_ hz;have LZ := k0_ (Nat.le_of_eq hz.symm);have hfrom := k0_ (fun (W : World) (hb : Below b1.heap.size b1 W) => hb0.trans (hb.mono hb0.size));have HK := k0_ (fun (W : World) (hb : Below b1.heap.size b1 W) => Qr.jA (zA hb (zC H0.out) H0.out));have CS := k0_ (yI h kids p w1 (hIs.below (hfrom.out w1 hb1)));have HI := k0_ hIs;clear hb0 g0 hb1 h6 h7 hzb hz hIs
 cases hs : decide (Qr.snd h kids = 0) with
 | true =>
  have hs0 := of_decide_eq_true hs;rw [if_pos hs0];rw [hs0] at CS;have CO := k0_ (fun (W : World) (hb : Below b1.heap.size b1 W) => xE (Tm.nodes kids + 1) h kids p W (Nat.lt_succ_self _) (HI.out.below (hfrom.out W hb)) (Qr.jS hs0).2);have CR := k0_ (fun (W : World) (hb : Below b1.heap.size b1 W) => (show Calls Tryz.prog 15 #[.agg (tC_ h p), .slice none 0 0, .int .i64 1] W (Qr.Post (Ck.Cut (fun b => b < w.heap.size) w.heap.size (w.heap.size + 3)) W (Cg.ty St.ops (Tm.nodes kids + 1) h kids [])) from zAO Qr.statQ Qr.zEt (Tm.nodes kids + 1) h kids p w (Nat.lt_succ_self _) HI.out (Qr.zBN (Qr.jS hs0).1 (Qr.jS hs0).2) (Ck.Cut (fun b => b < w.heap.size) w.heap.size (w.heap.size + 3)) [] none 0 0 W (hfrom.out W hb) (fun b hb => .inl ⟨hb, hb⟩) (Ck.EAt.empty _ _) (fun x hx => by cases hx) (by have := (Qr.zBN (Qr.jS hs0).1 (Qr.jS hs0).2).2.2.1; unfold Tm.nd at this; simp only [List.length_nil]; omega)));clear hs hs0;generalize Cg.ty St.ops (Tm.nodes kids + 1) h kids [] = RR at *;generalize St.fo h kids = F at *
  go_enter Tryz.func5, Tryz.ntmps5
  go_upto_region 1 with fail
  rw [← HW1.out];clear hw1 HW1;obtain ⟨q0', q1', q2', q3', q4', q5', q6', q7', q8', q9', q10'⟩ := HK.out w1 HBW.out
  go_wp2_with fail
  refine CS.out.mono ?_;rintro e w2 ⟨rfl, hb⟩;have HBW := kt_ HBW hb;have LZ := kz_ LZ hb;have H6 := kp_ hb H6;have H7 := kp_ hb H7;clear hb;clear q0' q1' q2' q3' q4' q5' q6' q7' q8' q9' q10';obtain ⟨q0', q1', q2', q3', q4', q5', q6', q7', q8', q9', q10'⟩ := HK.out w2 HBW.out
  go_wp2_with fail
  refine (CO.out w2 HBW.out).mono ?_;rintro e w3 ⟨rfl, hb⟩;have HBW := kt_ HBW hb;have LZ := kz_ LZ hb;have H6 := kp_ hb H6;have H7 := kp_ hb H7;clear hb CO;clear q0' q1' q2' q3' q4' q5' q6' q7' q8' q9' q10'
  cases F with
  | none =>
   obtain ⟨q0', q1', q2', q3', q4', q5', q6', q7', q8', q9', q10'⟩ := HK.out w3 HBW.out
   go_wp2_with fail
   refine (CR.out w3 HBW.out).mono ?_;rintro e w4 hp;obtain ⟨a, E, pq, x, G, m, cg, rfl, hgn, hl, hb⟩ := hp.names;have HGG := k0_ hgn;have HLY := k0_ (hl.weak (fun b _ hq => Qr.zq (by have := LZ.out; omega) hq));have HBW := kt_ HBW hb;have LZ := kz_ LZ hb;have H6 := kp_ hb H6;have H7 := kp_ hb H7;clear hl hb hgn hp;clear q0' q1' q2' q3' q4' q5' q6' q7' q8' q9' q10';have HRS := k0_ (zQ H6.out H7.out (show w.heap.size + 1 ≠ w.heap.size + 1 + 1 by omega) (hfrom.out _ HBW.out) (by omega) (by omega) (.int .i8 a.1) (.slice G m cg) (.int .i64 E) (.int .i64 pq) (.string x));have HLF := k0_ ((HLY.out.set2 (X := w.heap.size + 1) (fun b hq => hq.ne (by omega) (by omega)) (.int .i8 a.1) (.slice G m cg)).zh (X := w.heap.size + 1 + 1) (fun b hq => hq.ne (by omega) (by omega)) (.int .i64 E) (.int .i64 pq) (.string x));obtain ⟨z0, z1, z2, z3, zl⟩ := zF H6.out;obtain ⟨y0, y1, y2, y3, y4, y5, yl⟩ := cells3 H7.out
   go_wp2_with fail
   clear z0 z1 z2 z3 zl y0 y1 y2 y3 y4 y5 yl;generalize (((((w4.setCell ⟨w.heap.size + 1, 0, none⟩ (.int .i8 a.1)).setCell ⟨w.heap.size + 1, 1, none⟩ (.slice G m cg)).setCell ⟨w.heap.size + 1 + 1, 0, none⟩ (.int .i64 E)).setCell ⟨w.heap.size + 1 + 1, 1, none⟩ (.int .i64 pq)).setCell ⟨w.heap.size + 1 + 1, 2, none⟩ (.string x)) = wz at *;obtain ⟨k0, k1', -, -, -⟩ := zF HRS.out.1;obtain ⟨k2', k3', k4', -, -, -, -⟩ := cells3 HRS.out.2.1;refine bodyPost_ret (v := .tuple #[.agg #[.int .i8 a.1, .slice G m cg], .agg #[.int .i64 E, .int .i64 pq, .string x]]) (by simp [results, Tryz.results5, go_sem, k0, k1', k2', k3', k4']) rfl ?_;exact Qr.Post.mk HGG.out.1 HGG.out.2 (HLF.out.weak (fun b _ hq => hq.out (by omega))) HRS.out.2.2
  | some y =>
   have HZL := k0_ (Ck.Ly.zero (Ck.Cut (fun b => b < w.heap.size) w.heap.size (w.heap.size + 3)) w3);have HRS := k0_ (zQ H6.out H7.out (show w.heap.size + 1 ≠ w.heap.size + 1 + 1 by omega) (hfrom.out _ HBW.out) (by omega) (by omega) (.int .i8 0) (.slice none 0 0) (.int .i64 110) (.int .i64 y) (.string ⟨#[]⟩));have HLF := k0_ ((HZL.out.set2 (X := w.heap.size + 1) (fun b hq => hq.ne (by omega) (by omega)) (.int .i8 0) (.slice none 0 0)).zh (X := w.heap.size + 1 + 1) (fun b hq => hq.ne (by omega) (by omega)) (.int .i64 110) (.int .i64 y) (.string ⟨#[]⟩));obtain ⟨z0, z1, z2, z3, zl⟩ := zF H6.out;obtain ⟨y0, y1, y2, y3, y4, y5, yl⟩ := cells3 H7.out
   go_wp2_with fail
   clear z0 z1 z2 z3 zl y0 y1 y2 y3 y4 y5 yl;generalize (((((w3.setCell ⟨w.heap.size + 1, 0, none⟩ (.int .i8 0)).setCell ⟨w.heap.size + 1, 1, none⟩ (.slice none 0 0)).setCell ⟨w.heap.size + 1 + 1, 0, none⟩ (.int .i64 110)).setCell ⟨w.heap.size + 1 + 1, 1, none⟩ (.int .i64 y)).setCell ⟨w.heap.size + 1 + 1, 2, none⟩ (.string ⟨#[]⟩)) = wz at *;obtain ⟨k0, k1', -, -, -⟩ := zF HRS.out.1;obtain ⟨k2', k3', k4', -, -, -, -⟩ := cells3 HRS.out.2.1;refine bodyPost_ret (v := .tuple #[.agg #[.int .i8 0, .slice none 0 0], .agg #[.int .i64 110, .int .i64 y, .string ⟨#[]⟩]]) (by simp [results, Tryz.results5, go_sem, k0, k1', k2', k3', k4']) rfl ?_;exact Qr.Post.mk (a := (0, .nil)) (fun E p x e => by injection e with e; rw [← e]; decide) ⟨rfl, rfl, rfl, rfl⟩ (HLF.out.weak (fun b _ hq => hq.out (by omega))) HRS.out.2.2
 | false =>
  have hs0 := of_decide_eq_false hs;rw [if_neg hs0];have HS0 := k0_ hs0;have hne : (Qr.snd h kids != 0) = true := by simpa using hs0
  clear hs hs0;generalize Qr.snd h kids = S at *
  go_enter Tryz.func5, Tryz.ntmps5
  go_upto_region 1 with fail
  rw [← HW1.out];clear hw1 HW1;obtain ⟨q0', q1', q2', q3', q4', q5', q6', q7', q8', q9', q10'⟩ := HK.out w1 HBW.out
  go_wp2_with fail
  refine CS.out.mono ?_;rintro e w2 ⟨rfl, hb⟩;have HBW := kt_ HBW hb;have LZ := kz_ LZ hb;have H6 := kp_ hb H6;have H7 := kp_ hb H7;clear hb;clear q0' q1' q2' q3' q4' q5' q6' q7' q8' q9' q10';have HZL := k0_ (Ck.Ly.zero (Ck.Cut (fun b => b < w.heap.size) w.heap.size (w.heap.size + 3)) w2);have HRS := k0_ (zQ H6.out H7.out (show w.heap.size + 1 ≠ w.heap.size + 1 + 1 by omega) (hfrom.out _ HBW.out) (by omega) (by omega) (.int .i8 0) (.slice none 0 0) (.int .i64 S) (.int .i64 0) (.string ⟨#[]⟩));have HLF := k0_ ((HZL.out.set2 (X := w.heap.size + 1) (fun b hq => hq.ne (by omega) (by omega)) (.int .i8 0) (.slice none 0 0)).zh (X := w.heap.size + 1 + 1) (fun b hq => hq.ne (by omega) (by omega)) (.int .i64 S) (.int .i64 0) (.string ⟨#[]⟩));obtain ⟨z0, z1, z2, z3, zl⟩ := zF H6.out;obtain ⟨y0, y1, y2, y3, y4, y5, yl⟩ := cells3 H7.out
  go_wp2_with fail
  clear z0 z1 z2 z3 zl y0 y1 y2 y3 y4 y5 yl;generalize (((((w2.setCell ⟨w.heap.size + 1, 0, none⟩ (.int .i8 0)).setCell ⟨w.heap.size + 1, 1, none⟩ (.slice none 0 0)).setCell ⟨w.heap.size + 1 + 1, 0, none⟩ (.int .i64 S)).setCell ⟨w.heap.size + 1 + 1, 1, none⟩ (.int .i64 0)).setCell ⟨w.heap.size + 1 + 1, 2, none⟩ (.string ⟨#[]⟩)) = wz at *;obtain ⟨k0, k1', -, -, -⟩ := zF HRS.out.1;obtain ⟨k2', k3', k4', -, -, -, -⟩ := cells3 HRS.out.2.1;refine bodyPost_ret (v := .tuple #[.agg #[.int .i8 0, .slice none 0 0], .agg #[.int .i64 S, .int .i64 0, .string ⟨#[]⟩]]) (by simp [results, Tryz.results5, go_sem, k0, k1', k2', k3', k4']) rfl ?_;exact Qr.Post.mk (a := (0, .nil)) (fun E p x e => by injection e with e; rw [← e]; exact HS0.out) ⟨rfl, rfl, rfl, rfl⟩ (HLF.out.weak (fun b _ hq => hq.out (by omega))) HRS.out.2.2
end Go.Proofs.YtglgjaomneljbaaGreatDoor
