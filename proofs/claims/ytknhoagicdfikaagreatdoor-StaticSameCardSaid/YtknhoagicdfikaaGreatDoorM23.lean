/-
  Layers 11 and 13: partsOf, the Meet; the strict rules. Layer 11: refuse, Static. Layer 11: the static rules.
-/
import Derived.Test.YtknhoagicdfikaaGreatDoorM19
import Derived.Test.YtknhoagicdfikaaGreatDoorCk23
import Derived.Test.YtknhoagicdfikaaGreatDoorM16
import Derived.Test.YtknhoagicdfikaaGreatDoorM18
import Derived.Test.YtknhoagicdfikaaGreatDoorM20
namespace Go.Proofs.YtknhoagicdfikaaGreatDoor
open Go.RowKit
set_option maxHeartbeats 1000000 in
set_option maxRecDepth 100000 in
theorem sparts_any (Q : Nat → Prop) (kd : Int) (a : Ck.T2) (A : Option Addr) (n c : Nat) (w : World) (hkd : 3 ≤ kd ∧ kd ≤ 5) (hL : Ck.Ly Q w a A n c) (hok : Ty.okT a.1 a.2 = true) :
    Calls Tryz.prog 34 #[.int .i8 kd, .agg #[.int .i8 a.1, .slice A n c]] w (Cg.AsPost Q w (St.ops.asO kd a) (St.ops.asl kd a) (St.ops.asr kd a)) := by
  by_cases hk : a.1 = kd
  · obtain ⟨k, kids⟩ := a
    dsimp only at hk hok ⊢
    subst hk
    obtain ⟨a1, a2, p1, f1, a3, a4, p2, f2, rfl, o1, o2⟩ := Ty.two_of hok hkd.1
    have hn := hL.is.n_eq
    simp only [Ty.len] at hn
    subst hn
    obtain ⟨bb, oo, B1, c1, B2, c2, rfl, hQ, x0, x1, x2, x3, L1, L2⟩ := hL.parts
    have e1 : St.ops.asO k (k, .node a1 a2 p1 f1 (.node a3 a4 p2 f2 .nil)) = true := by show (k == k) = true; simp
    have e2 : St.ops.asl k (k, .node a1 a2 p1 f1 (.node a3 a4 p2 f2 .nil)) = (p1, f1) := by show (if k = k then _ else _) = _; rw [if_pos rfl]; rfl
    have e3 : St.ops.asr k (k, .node a1 a2 p1 f1 (.node a3 a4 p2 f2 .nil)) = (p2, f2) := by show (if k = k then _ else _) = _; rw [if_pos rfl]; rfl
    rw [e1, e2, e3]
    have hB3 := below_n3 w (.cells #[.int .i8 k, .slice (some ⟨bb, oo, none⟩) 2 c] 25) (.cells #[.int .i8 0, .slice none 0 0] 25) (.cells #[.int .i8 0, .slice none 0 0] 25)
    obtain ⟨h0, h1, h2⟩ := heap_n3 w (.cells #[.int .i8 k, .slice (some ⟨bb, oo, none⟩) 2 c] 25) (.cells #[.int .i8 0, .slice none 0 0] 25) (.cells #[.int .i8 0, .slice none 0 0] 25)
    have HL1 := Lib.hid (((L1.weak (Q' := Ck.Cut Q w.heap.size (w.heap.size + 3)) (fun b hl hq => .inl ⟨hq, hl⟩)).later hB3))
    have HL2 := Lib.hid (((L2.weak (Q' := Ck.Cut Q w.heap.size (w.heap.size + 3)) (fun b hl hq => .inl ⟨hq, hl⟩)).later hB3))
    have x0 := keep_cell x0 hB3
    have x1 := keep_cell x1 hB3
    have x2 := keep_cell x2 hB3
    have x3 := keep_cell x3 hB3
    have HB3 := Lib.hid hB3
    clear e1 e2 e3 hok hL hQ L1 L2 hB3 o1 o2 hkd
    generalize Ty.len f1 = m1 at *
    generalize Ty.len f2 = m2 at *
    have ek : (k != k) = false := by simp
    go_enter Tryz.func34, Tryz.ntmps34
    go_upto_region 1 with fail
    generalize ((w.alloc (.cells #[.int .i8 k, .slice (some ⟨bb, oo, none⟩) 2 c] 25)).alloc (.cells #[.int .i8 0, .slice none 0 0] 25)).alloc (.cells #[.int .i8 0, .slice none 0 0] 25) = w1 at *
    obtain ⟨r0, r1, -, -, rl⟩ := own2 h0
    have H1 := Lib.hid h1
    have H2 := Lib.hid h2
    obtain ⟨y0, y1, y2, y3, yl⟩ := own2 h1
    obtain ⟨z0, z1, z2, z3, zl⟩ := own2 h2
    clear h0 h1 h2
    go_wp2_with fail
    go_region
    have Z4 := Lib.hid (set_two_ne (set_two H1.out (.int .i8 p1) (.slice B1 m1 c1)) (show w.heap.size + 1 + 1 ≠ w.heap.size + 1 by omega) (.int .i8 p2) (.slice B2 m2 c2))
    have Z5 := Lib.hid (set_two (set_two_ne H2.out (show w.heap.size + 1 ≠ w.heap.size + 1 + 1 by omega) (.int .i8 p1) (.slice B1 m1 c1)) (.int .i8 p2) (.slice B2 m2 c2))
    have HBF := Lib.hid (below_set2 (below_set2 HB3.out (show w.heap.size ≤ w.heap.size + 1 by omega) (.int .i8 p1) (.slice B1 m1 c1)) (show w.heap.size ≤ w.heap.size + 1 + 1 by omega) (.int .i8 p2) (.slice B2 m2 c2))
    have HJ1 := Lib.hid ((HL1.out.set2 (X := w.heap.size + 1) (fun b h => h.ne (by omega) (by omega)) (.int .i8 p1) (.slice B1 m1 c1)).set2 (X := w.heap.size + 1 + 1) (fun b h => h.ne (by omega) (by omega)) (.int .i8 p2) (.slice B2 m2 c2))
    have HJ2 := Lib.hid ((HL2.out.set2 (X := w.heap.size + 1) (fun b h => h.ne (by omega) (by omega)) (.int .i8 p1) (.slice B1 m1 c1)).set2 (X := w.heap.size + 1 + 1) (fun b h => h.ne (by omega) (by omega)) (.int .i8 p2) (.slice B2 m2 c2))
    generalize ((((w1.setCell ⟨w.heap.size + 1, 0, none⟩ (.int .i8 p1)).setCell ⟨w.heap.size + 1, 1, none⟩ (.slice B1 m1 c1)).setCell ⟨w.heap.size + 1 + 1, 0, none⟩ (.int .i8 p2)).setCell ⟨w.heap.size + 1 + 1, 1, none⟩ (.slice B2 m2 c2)) = w6 at *
    have K4 : Hid (w6.drew.heap[w.heap.size + 1]? = some (.cells #[.int .i8 p1, .slice B1 m1 c1] 25 (0, 0))) := Lib.hid Z4.out
    have K5 : Hid (w6.drew.heap[w.heap.size + 1 + 1]? = some (.cells #[.int .i8 p2, .slice B2 m2 c2] 25 (0, 0))) := Lib.hid Z5.out
    have HJ1 := Lib.hid (HJ1.out.later (Below.refl _ _).drew)
    have HJ2 := Lib.hid (HJ2.out.later (Below.refl _ _).drew)
    have HBF := Lib.hid (HBF.out.drew)
    clear Z4 Z5 H1 H2 HL1 HL2 HB3 r0 r1 rl x0 x1 x2 x3 y0 y1 y2 y3 yl z0 z1 z2 z3 zl
    generalize w6.drew = w7 at *
    obtain ⟨k0, k1, -, -, -⟩ := own2 K4.out
    obtain ⟨k2, k3, -, -, -⟩ := own2 K5.out
    go_wp2_with fail
    refine bodyPost_ret (v := .tuple #[.agg #[.int .i8 p1, .slice B1 m1 c1], .agg #[.int .i8 p2, .slice B2 m2 c2], .bool true]) (by simp [results, Tryz.results34, go_sem, k0, k1, k2, k3]) rfl ⟨B1, m1, c1, B2, m2, c2, rfl, HJ1.out.weak (fun b _ h => h.out (by omega)), HJ2.out.weak (fun b _ h => h.out (by omega)), HBF.out⟩
  · have e1 : St.ops.asO kd a = false := by show (a.1 == kd) = false; simpa using hk
    have e2 : St.ops.asl kd a = (0, .nil) := by show (if a.1 = kd then _ else _) = _; rw [if_neg hk]
    have e3 : St.ops.asr kd a = (0, .nil) := by show (if a.1 = kd then _ else _) = _; rw [if_neg hk]
    rw [e1, e2, e3]
    have hB3 := below_n3 w (.cells #[.int .i8 a.1, .slice A n c] 25) (.cells #[.int .i8 0, .slice none 0 0] 25) (.cells #[.int .i8 0, .slice none 0 0] 25)
    obtain ⟨h0, h1, h2⟩ := heap_n3 w (.cells #[.int .i8 a.1, .slice A n c] 25) (.cells #[.int .i8 0, .slice none 0 0] 25) (.cells #[.int .i8 0, .slice none 0 0] 25)
    have HB3 := Lib.hid hB3
    have ek : (a.1 != kd) = true := by simpa using hk
    clear e1 e2 e3 hok hL hB3 hkd hk
    go_enter Tryz.func34, Tryz.ntmps34
    go_upto_region 1 with fail
    generalize ((w.alloc (.cells #[.int .i8 a.1, .slice A n c] 25)).alloc (.cells #[.int .i8 0, .slice none 0 0] 25)).alloc (.cells #[.int .i8 0, .slice none 0 0] 25) = w1 at *
    obtain ⟨r0, r1, -, -, rl⟩ := own2 h0
    have H1 := Lib.hid h1
    have H2 := Lib.hid h2
    obtain ⟨y0, y1, y2, y3, yl⟩ := own2 h1
    obtain ⟨z0, z1, z2, z3, zl⟩ := own2 h2
    clear h0 h1 h2
    go_wp2_with fail
    go_region
    have Z4 := Lib.hid (set_two_ne (set_two H1.out (.int .i8 0) (.slice none 0 0)) (show w.heap.size + 1 + 1 ≠ w.heap.size + 1 by omega) (.int .i8 0) (.slice none 0 0))
    have Z5 := Lib.hid (set_two (set_two_ne H2.out (show w.heap.size + 1 ≠ w.heap.size + 1 + 1 by omega) (.int .i8 0) (.slice none 0 0)) (.int .i8 0) (.slice none 0 0))
    have HBF := Lib.hid (below_set2 (below_set2 HB3.out (show w.heap.size ≤ w.heap.size + 1 by omega) (.int .i8 0) (.slice none 0 0)) (show w.heap.size ≤ w.heap.size + 1 + 1 by omega) (.int .i8 0) (.slice none 0 0))
    generalize ((((w1.setCell ⟨w.heap.size + 1, 0, none⟩ (.int .i8 0)).setCell ⟨w.heap.size + 1, 1, none⟩ (.slice none 0 0)).setCell ⟨w.heap.size + 1 + 1, 0, none⟩ (.int .i8 0)).setCell ⟨w.heap.size + 1 + 1, 1, none⟩ (.slice none 0 0)) = w6 at *
    have K4 : Hid (w6.drew.heap[w.heap.size + 1]? = some (.cells #[.int .i8 0, .slice none 0 0] 25 (0, 0))) := Lib.hid Z4.out
    have K5 : Hid (w6.drew.heap[w.heap.size + 1 + 1]? = some (.cells #[.int .i8 0, .slice none 0 0] 25 (0, 0))) := Lib.hid Z5.out
    have HBF := Lib.hid (HBF.out.drew)
    clear Z4 Z5 H1 H2 HB3 r0 r1 rl y0 y1 y2 y3 yl z0 z1 z2 z3 zl
    generalize w6.drew = w7 at *
    obtain ⟨k0, k1, -, -, -⟩ := own2 K4.out
    obtain ⟨k2, k3, -, -, -⟩ := own2 K5.out
    go_wp2_with fail
    refine bodyPost_ret (v := .tuple #[.agg #[.int .i8 0, .slice none 0 0], .agg #[.int .i8 0, .slice none 0 0], .bool false]) (by simp [results, Tryz.results34, go_sem, k0, k1, k2, k3]) rfl ⟨none, 0, 0, none, 0, 0, rfl, Ck.Ly.zero _ _, Ck.Ly.zero _ _, HBF.out⟩

set_option maxHeartbeats 1000000 in
set_option maxRecDepth 100000 in
theorem smeet_any (Q : Nat → Prop) (a : Ck.T2) (A : Option Addr) (n c : Nat) (b : Ck.T2) (A' : Option Addr) (n' c' : Nat) (w : World) (hL : Ck.Ly Q w a A n c) :
    Calls Tryz.prog 35 #[.agg #[.int .i8 a.1, .slice A n c], .agg #[.int .i8 b.1, .slice A' n' c']] w (Ck.Gives Q w a) := by
  have hB3 := below_n3 w (.cells #[.int .i8 a.1, .slice A n c] 25) (.cells #[.int .i8 b.1, .slice A' n' c'] 25) (.cells #[.int .i8 a.1, .slice A n c] 25)
  have HL := Lib.hid ((hL.weak (Q' := Ck.Cut Q w.heap.size w.heap.size) (fun b hl hq => .inl ⟨hq, hl⟩)).later hB3)
  have HB3 := Lib.hid hB3
  clear hL hB3
  go_enter Tryz.func35, Tryz.ntmps35
  go_wp2_with fail
  refine bodyPost_ret (v := .agg #[.int .i8 a.1, .slice A n c]) (by simp [results, Tryz.results35, go_sem, *]) rfl ⟨A, n, c, rfl, HL.out, HB3.out⟩
set_option maxHeartbeats 1000000 in
set_option maxRecDepth 100000 in
theorem sstrict_any (f : FuncId) (cp : Array Value) (w : World) : Calls Tryz.prog 16 #[.func (Fn.func f) #[] cp] w fun e w' => e = .returned (.agg #[.func (Fn.func f) #[] cp, .func (Fn.func 33) #[] #[], .func (Fn.func 34) #[] #[], .func (Fn.func 35) #[] #[], .nilFunc]) ∧ Below w.heap.size w w' := by
  have HB := Lib.hid (below_n1 w (.cells #[.func (Fn.func f) #[] cp, .func (Fn.func 33) #[] #[], .func (Fn.func 34) #[] #[], .func (Fn.func 35) #[] #[], .nilFunc] 47))
  go_enter Tryz.func16, Tryz.ntmps16
  go_wp2_with fail
  refine bodyPost_ret (v := .agg #[.func (Fn.func f) #[] cp, .func (Fn.func 33) #[] #[], .func (Fn.func 34) #[] #[], .func (Fn.func 35) #[] #[], .nilFunc]) (by simp [results, Tryz.results16, go_sem, *]) rfl ⟨rfl, HB.out⟩
end Go.Proofs.YtknhoagicdfikaaGreatDoor
namespace Go.Proofs.YtknhoagicdfikaaGreatDoor
open Go.RowKit
set_option maxHeartbeats 1000000 in
set_option maxRecDepth 100000 in
theorem srefuse_any (h : Hd) (kids : Tm) (p : Pl) (w : World) (hIs : Tm.Is w h kids p) (hG : TGlob w) :
    Calls Tryz.prog 17 #[.agg #[.int .i8 h.kind, .string h.name, .string h.arg, .int .i64 h.num, .int .i8 h.tk, .slice p.TA p.tn p.tc, .int .i8 h.uk, .slice p.UA p.un p.uc, .int .i64 h.label, .int .i64 h.pos, .slice p.A p.n p.c]] w (Cg.RefPost w (St.ref h kids)) := by
  have hB1 := below_n1 w (.cells #[.int .i8 h.kind, .string h.name, .string h.arg, .int .i64 h.num, .int .i8 h.tk, .slice p.TA p.tn p.tc, .int .i8 h.uk, .slice p.UA p.un p.uc, .int .i64 h.label, .int .i64 h.pos, .slice p.A p.n p.c] 28)
  have h0 := heap_new w (.cells #[.int .i8 h.kind, .string h.name, .string h.arg, .int .i64 h.num, .int .i8 h.tk, .slice p.TA p.tn p.tc, .int .i8 h.uk, .slice p.UA p.un p.uc, .int .i64 h.label, .int .i64 h.pos, .slice p.A p.n p.c] 28)
  have CR := Lib.hid (fun (gK : Nat) (W : World) (hb : Below (w.alloc (.cells #[.int .i8 h.kind, .string h.name, .string h.arg, .int .i64 h.num, .int .i8 h.tk, .slice p.TA p.tn p.tc, .int .i8 h.uk, .slice p.UA p.un p.uc, .int .i64 h.label, .int .i64 h.pos, .slice p.A p.n p.c] 28)).heap.size (w.alloc (.cells #[.int .i8 h.kind, .string h.name, .string h.arg, .int .i64 h.num, .int .i8 h.tk, .slice p.TA p.tn p.tc, .int .i8 h.uk, .slice p.UA p.un p.uc, .int .i64 h.label, .int .i64 h.pos, .slice p.A p.n p.c] 28)) W) (hk : W.heap[gK]? = some (.cells #[.int .i8 17] 22 (0, 0))) => ckwithout1_any 17 gK h kids p W (hIs.below (hB1.trans (hb.mono hB1.size))) (hG.below (hB1.trans (hb.mono hB1.size))) hk)
  have CF := Lib.hid (fun (W : World) (hb : Below w.heap.size w W) => sfirst_any (Tm.nodes kids + 1) h kids p W (Nat.lt_succ_self _) (hIs.below hb) (hG.below hb).types)
  obtain ⟨w1, hw1⟩ : ∃ w1, w1 = w.alloc (.cells #[.int .i8 h.kind, .string h.name, .string h.arg, .int .i64 h.num, .int .i8 h.tk, .slice p.TA p.tn p.tc, .int .i8 h.uk, .slice p.UA p.un p.uc, .int .i64 h.label, .int .i64 h.pos, .slice p.A p.n p.c] 28) := ⟨_, rfl⟩
  rw [← hw1] at hB1 h0 CR
  have HW1 := Lib.hid hw1
  have HB1 := Lib.hid hB1
  have HZ := Lib.hid (show w1.heap.size = w.heap.size + 1 by rw [hw1]; simp)
  have HK := Lib.hid (fun (W : World) (hb : Below w1.heap.size w1 W) => (own11 (heap_below hb (heap_lt h0) h0)))
  clear hIs hG hB1 h0
  unfold St.ref
  rw [Ck.refO_K]
  cases hq : Ck.refKO 17 h kids with
  | some x =>
    rw [hq] at CR
    clear hq CF
    go_enter Tryz.func17, Tryz.ntmps17
    go_upto_region 1 with fail
    rw [← HW1.out]
    clear hw1 HW1
    refine region_inv_end2 22 rfl [6, 7, 8, 3] (by kernel_rfl) (by kernel_rfl) (by kernel_rfl) (fun listed a' w' => a'.defers = [] ∧ a'.tmps.size = 22 ∧ (a'.eval (.tmp 1) = .pointer (some ⟨w.heap.size, 0, none⟩)) ∧ ∃ gK g, (listed[0]? = some true → (a'.eval (.tmp 6) = .func (Fn.func 44) #[] #[.pointer (some ⟨gK, 0, none⟩)]) ∧ ((listed[2]? = some false → w'.heap[gK]? = some (.cells #[.int .i8 17] 22 (0, 0))))) ∧ (listed[1]? = some true → (a'.eval (.tmp 7) = .agg #[.int .i8 h.kind, .string h.name, .string h.arg, .int .i64 h.num, .int .i8 h.tk, .slice p.TA p.tn p.tc, .int .i8 h.uk, .slice p.UA p.un p.uc, .int .i64 h.label, .int .i64 h.pos, .slice p.A p.n p.c])) ∧ (listed[2]? = some true → (a'.eval (.tmp 8) = .pointer (some ⟨g, 0, none⟩)) ∧ (w'.heap[g]? = some (.cells #[.int .i64 x.1, .int .i64 x.2, .string Ck.e0] 56 (0, 0))) ∧ (w1.heap.size ≤ g)) ∧ (listed[3]? = some true → (a'.eval (.tmp 3) = .pointer (some ⟨g, 0, none⟩)) ∧ (listed[2]? = some true)) ∧ Below w1.heap.size w1 w') (fun _ _ _ h => h.1) ?_ ?_ ?_
    · have hz := HZ.out
      refine ⟨rfl, rfl, rfl, 0, 0, FH, FH, FH, FH, (Below.refl _ _).drew⟩
    · rintro listed a' w' i o ⟨hdf, hsz, hx, gK, g, y0, y1, y2, y3, hbw⟩ hz hsz0 ho hi hp
      have hi13 : i < 4 := by
        rcases Nat.lt_or_ge i 4 with q | q
        · exact q
        · rw [Array.getElem?_eq_none (by simpa using q)] at ho; cases ho
      rcases (by omega : i = 0 ∨ i = 1 ∨ i = 2 ∨ i = 3) with rfl | rfl | rfl | rfl
      · obtain rfl := SI ho
        refine C_ ho 6 (ckwithout_any 17 w') fun e u hg => ?_
        · obtain ⟨gK', he, hkb, hlo, hb⟩ := hg
          refine ⟨.func (Fn.func 44) #[] #[.pointer (some ⟨gK', 0, none⟩)], he, ?_⟩
          have hbs := hbw.size
          have hzz := HZ.out
          have hbs2 := hb.size
          exact ⟨pd hdf, ps hsz, KX hx, gK', g, (fun _ => ⟨pS hsz, (fun _ => hkb)⟩), K1 y1, K1 y2, K1 y3, hbw.trans (hb.mono hbw.size)⟩
      · obtain rfl := SI ho
        obtain ⟨q0, q1, q2, q3, q4, q5, q6, q7, q8, q9, q10, -⟩ := HK.out w' hbw
        exact V_ ho 7 ⟨pd hdf, ps hsz, KX hx, gK, g, (kF y0 (fun q => ⟨pn q.1, (kU q.2 (fun q => q))⟩)), (fun _ => pS hsz), K1 y2, K1 y3, hbw⟩
      · obtain rfl := SI ho
        have v0 := hpv hp 0 (by simp)
        have ww0 := (y0 v0).1
        have v1 := hpv hp 1 (by simp)
        have ww1 := (y1 v1)
        refine C_ ho 8 (CR.out gK w' hbw (((y0 v0).2) hi)) fun e u hg => ?_
        · obtain ⟨g', rfl, hf, hgl, hb⟩ := hg
          refine ⟨.pointer (some ⟨g', 0, none⟩), rfl, ?_⟩
          have hbs := hbw.size
          have hzz := HZ.out
          have hbs2 := hb.size
          exact ⟨pd hdf, ps hsz, KX hx, gK, g', (kF y0 (fun q => ⟨pn q.1, (fun qu => (set_self_false qu).elim)⟩)), K1 y1, (fun _ => ⟨pS hsz, hf, (Nat.le_trans hbw.size hgl)⟩), KN y3, hbw.trans (hb.mono hbw.size)⟩
      · obtain rfl := SI ho
        have v2 := hpv hp 2 (by simp)
        have ww2 := (y2 v2).1
        exact V_ ho 3 ⟨pd hdf, ps hsz, KX hx, gK, g, (kF y0 (fun q => ⟨pn q.1, (kU q.2 (fun q => q))⟩)), K1 y1, K1 y2, (fun _ => ⟨pS hsz, (set_keep v2)⟩), hbw⟩
    · rintro listed u w' t ht hu ⟨-, -, -, gK, g, y0, y1, y2, y3, hbw⟩ hall
      have v2 := hall 2 (by decide)
      have v3 := hall 3 (by decide)
      have HBW := Lib.hid hbw
      have HF := Lib.hid ((y2 v2).2.1)
      have HGG := Lib.hid ((y2 v2).2.2)
      have e3 := ((y3 v3).1)
      rw [hu 3 (by decide) (by decide)] at e3
      clear y0 y1 y2 y3 v2 v3 hall hu
      clear hbw
      simp only [over, List.setIfInBounds_toArray, List.set_cons_succ, List.set_cons_zero, e3] at ht
      subst ht
      clear e3
      go_wp2_with fail
      go_ret
      exact ⟨g, rfl, HF.out, Nat.le_trans HB1.out.size HGG.out, HB1.out.trans (HBW.out.mono HB1.out.size)⟩
  | none =>
    rw [hq] at CR
    clear hq
    obtain ⟨R, hR⟩ : ∃ R, St.fo h kids = R := ⟨_, rfl⟩
    rw [hR] at CF ⊢
    clear hR
    go_enter Tryz.func17, Tryz.ntmps17
    go_upto_region 1 with fail
    rw [← HW1.out]
    clear hw1 HW1
    refine region_inv_end2 22 rfl [6, 7, 8, 3] (by kernel_rfl) (by kernel_rfl) (by kernel_rfl) (fun listed a' w' => a'.defers = [] ∧ a'.tmps.size = 22 ∧ (a'.eval (.tmp 1) = .pointer (some ⟨w.heap.size, 0, none⟩)) ∧ ∃ gK, (listed[0]? = some true → (a'.eval (.tmp 6) = .func (Fn.func 44) #[] #[.pointer (some ⟨gK, 0, none⟩)]) ∧ ((listed[2]? = some false → w'.heap[gK]? = some (.cells #[.int .i8 17] 22 (0, 0))))) ∧ (listed[1]? = some true → (a'.eval (.tmp 7) = .agg #[.int .i8 h.kind, .string h.name, .string h.arg, .int .i64 h.num, .int .i8 h.tk, .slice p.TA p.tn p.tc, .int .i8 h.uk, .slice p.UA p.un p.uc, .int .i64 h.label, .int .i64 h.pos, .slice p.A p.n p.c])) ∧ (listed[2]? = some true → (a'.eval (.tmp 8) = .pointer none)) ∧ (listed[3]? = some true → (a'.eval (.tmp 3) = .pointer none)) ∧ Below w1.heap.size w1 w') (fun _ _ _ h => h.1) ?_ ?_ ?_
    · have hz := HZ.out
      refine ⟨rfl, rfl, rfl, 0, FH, FH, FH, FH, (Below.refl _ _).drew⟩
    · rintro listed a' w' i o ⟨hdf, hsz, hx, gK, y0, y1, y2, y3, hbw⟩ hz hsz0 ho hi hp
      have hi13 : i < 4 := by
        rcases Nat.lt_or_ge i 4 with q | q
        · exact q
        · rw [Array.getElem?_eq_none (by simpa using q)] at ho; cases ho
      rcases (by omega : i = 0 ∨ i = 1 ∨ i = 2 ∨ i = 3) with rfl | rfl | rfl | rfl
      · obtain rfl := SI ho
        refine C_ ho 6 (ckwithout_any 17 w') fun e u hg => ?_
        · obtain ⟨gK', he, hkb, hlo, hb⟩ := hg
          refine ⟨.func (Fn.func 44) #[] #[.pointer (some ⟨gK', 0, none⟩)], he, ?_⟩
          have hbs := hbw.size
          have hzz := HZ.out
          have hbs2 := hb.size
          exact ⟨pd hdf, ps hsz, KX hx, gK', (fun _ => ⟨pS hsz, (fun _ => hkb)⟩), K1 y1, K1 y2, K1 y3, hbw.trans (hb.mono hbw.size)⟩
      · obtain rfl := SI ho
        obtain ⟨q0, q1, q2, q3, q4, q5, q6, q7, q8, q9, q10, -⟩ := HK.out w' hbw
        exact V_ ho 7 ⟨pd hdf, ps hsz, KX hx, gK, (kF y0 (fun q => ⟨pn q.1, (kU q.2 (fun q => q))⟩)), (fun _ => pS hsz), K1 y2, K1 y3, hbw⟩
      · obtain rfl := SI ho
        have v0 := hpv hp 0 (by simp)
        have ww0 := (y0 v0).1
        have v1 := hpv hp 1 (by simp)
        have ww1 := (y1 v1)
        refine C_ ho 8 (CR.out gK w' hbw (((y0 v0).2) hi)) fun e u hg => ?_
        · obtain ⟨he, hb⟩ := hg
          refine ⟨.pointer none, he, ?_⟩
          have hbs := hbw.size
          have hzz := HZ.out
          have hbs2 := hb.size
          exact ⟨pd hdf, ps hsz, KX hx, gK, (kF y0 (fun q => ⟨pn q.1, (fun qu => (set_self_false qu).elim)⟩)), K1 y1, (fun _ => pS hsz), K1 y3, hbw.trans (hb.mono hbw.size)⟩
      · obtain rfl := SI ho
        have v2 := hpv hp 2 (by simp)
        have ww2 := (y2 v2)
        exact V_ ho 3 ⟨pd hdf, ps hsz, KX hx, gK, (kF y0 (fun q => ⟨pn q.1, (kU q.2 (fun q => q))⟩)), K1 y1, K1 y2, (fun _ => pS hsz), hbw⟩
    · rintro listed u w' t ht hu ⟨-, -, -, gK, y0, y1, y2, y3, hbw⟩ hall
      have v3 := hall 3 (by decide)
      have HBW := Lib.hid hbw
      have e3 := ((y3 v3))
      rw [hu 3 (by decide) (by decide)] at e3
      clear y0 y1 y2 y3 v3 hall hu
      clear hbw
      simp only [over, List.setIfInBounds_toArray, List.set_cons_succ, List.set_cons_zero, e3] at ht
      subst ht
      clear e3
      generalize hw : w' = w2 at *
      clear hw
      have HB2 := Lib.hid (HB1.out.trans (HBW.out.mono HB1.out.size))
      obtain ⟨q0, q1, q2, q3, q4, q5, q6, q7, q8, q9, q10, ql⟩ := HK.out w2 HBW.out
      go_wp2_with fail
      refine (CF.out _ HB2.out).mono ?_
      rintro e u ⟨h2, p2, rfl, hx, hb⟩
      have HB3 := Lib.hid (HB2.out.trans (hb.mono HB2.out.size))
      have hb3 := below_n1 u (.cells #[.int .i8 h2.kind, .string h2.name, .string h2.arg, .int .i64 h2.num, .int .i8 h2.tk, .slice p2.TA p2.tn p2.tc, .int .i8 h2.uk, .slice p2.UA p2.un p2.uc, .int .i64 h2.label, .int .i64 h2.pos, .slice p2.A p2.n p2.c] 28)
      have hn3 := Lib.hid (heap_new u (.cells #[.int .i8 h2.kind, .string h2.name, .string h2.arg, .int .i64 h2.num, .int .i8 h2.tk, .slice p2.TA p2.tn p2.tc, .int .i8 h2.uk, .slice p2.UA p2.un p2.uc, .int .i64 h2.label, .int .i64 h2.pos, .slice p2.A p2.n p2.c] 28))
      have HB4 := Lib.hid (HB3.out.trans (hb3.mono HB3.out.size))
      have HXX := Lib.hid hx
      clear hb hb3 hx q0 q1 q2 q3 q4 q5 q6 q7 q8 q9 q10 ql
      cases R with
      | none =>
        go_wp2_with fail
        go_ret
        exact ⟨rfl, HB4.out⟩
      | some x =>
        have hpx := HXX.out x rfl
        subst hpx
        go_upto_region 6 with fail
        generalize hw9 : u.alloc (.cells #[.int .i8 h2.kind, .string h2.name, .string h2.arg, .int .i64 h2.num, .int .i8 h2.tk, .slice p2.TA p2.tn p2.tc, .int .i8 h2.uk, .slice p2.UA p2.un p2.uc, .int .i64 h2.label, .int .i64 h2.pos, .slice p2.A p2.n p2.c] 28) = w9 at *
        clear hw9
        have HB5 := Lib.hid (HB4.out.alloc HB4.out.size (.cells #[.int .i64 110, .int .i64 h2.pos, .string ⟨#[]⟩] 56))
        have HF := Lib.hid (heap_new w9 (.cells #[.int .i64 110, .int .i64 h2.pos, .string ⟨#[]⟩] 56))
        have HS := Lib.hid HB4.out.size
        obtain ⟨q0, q1, q2, q3, q4, q5, q6, q7, q8, q9, q10, ql⟩ := own11 hn3.out
        go_wp2_with fail
        go_ret
        exact ⟨w9.heap.size, rfl, HF.out, HS.out, HB5.out⟩
namespace St
/-- whether nothing is refused -/
def isStatic (h : Hd) (kids : Tm) : Bool := (ref h kids).isNone
end St
set_option maxHeartbeats 1000000 in
set_option maxRecDepth 100000 in
theorem sStatic_any (h : Hd) (kids : Tm) (p : Pl) (w : World) (hIs : Tm.Is w h kids p) (hG : TGlob w) :
    Calls Tryz.prog 9 #[.agg #[.int .i8 h.kind, .string h.name, .string h.arg, .int .i64 h.num, .int .i8 h.tk, .slice p.TA p.tn p.tc, .int .i8 h.uk, .slice p.UA p.un p.uc, .int .i64 h.label, .int .i64 h.pos, .slice p.A p.n p.c]] w fun e w' => e = .returned (.bool (St.isStatic h kids)) ∧ Below w.heap.size w w' := by
  have HB1 := Lib.hid (below_n1 w (.cells #[.int .i8 h.kind, .string h.name, .string h.arg, .int .i64 h.num, .int .i8 h.tk, .slice p.TA p.tn p.tc, .int .i8 h.uk, .slice p.UA p.un p.uc, .int .i64 h.label, .int .i64 h.pos, .slice p.A p.n p.c] 28))
  have CR := Lib.hid (fun (W : World) (hb : Below w.heap.size w W) => srefuse_any h kids p W (hIs.below hb) (hG.below hb))
  clear hIs hG
  unfold St.isStatic
  cases hq : St.ref h kids with
  | some x =>
    rw [hq] at CR
    clear hq
    go_enter Tryz.func9, Tryz.ntmps9
    go_wp2_with fail
    refine (CR.out _ HB1.out).mono ?_
    rintro e w2 ⟨g, rfl, hf, hg, hb2⟩
    have HB2 := Lib.hid (HB1.out.trans (hb2.mono HB1.out.size))
    clear hb2 hf hg
    go_wp2_with fail
    go_ret
    exact ⟨rfl, HB2.out⟩
  | none =>
    rw [hq] at CR
    clear hq
    go_enter Tryz.func9, Tryz.ntmps9
    go_wp2_with fail
    refine (CR.out _ HB1.out).mono ?_
    rintro e w2 ⟨rfl, hb2⟩
    have HB2 := Lib.hid (HB1.out.trans (hb2.mono HB1.out.size))
    clear hb2
    go_wp2_with fail
    go_ret
    exact ⟨rfl, HB2.out⟩
end Go.Proofs.YtknhoagicdfikaaGreatDoor
namespace Go.Proofs.YtknhoagicdfikaaGreatDoor
open Go.RowKit
/-- the static rules -/
def statRv : Cg.Rv where
  fr := 17
  cpt := #[]
  vg := .nilFunc
  fa := 33
  fm := 34
  ft := 35
  D := St.ops
  cfr := fun args W => by simp [go_sem]
  cfa := fun args W => by simp [go_sem]
  cfm := fun args W => by simp [go_sem]
  cft := fun args W => by simp [go_sem]
  agC := fun k kids A n c k' kids' A' n' c' w h1 h2 hS => same_any k kids A n c k' kids' A' n' c' w h1 h2 hS
  asC := fun Q kd a A n c w hkd hL hok _ => sparts_any Q kd a A n c w hkd hL hok
  mtC := fun Q a A n c b A' n' c' w h1 _ _ _ => smeet_any Q a A n c b A' n' c' w h1
  gC := fun e => by cases e
namespace St
theorem ref_ok {h : Hd} {kids : Tm} (e : ref h kids = none) : (Tm.chk h kids = 0 ∧ Ck.castT h kids = false) ∧ fo h kids = none := by
  unfold ref at e
  cases hq : Ck.refO h kids with
  | some x => rw [hq] at e; cases e
  | none =>
    rw [hq] at e
    refine ⟨by rw [Ck.refO_K] at hq; rw [Ck.castT_has]; exact Ck.refKO_ok hq, ?_⟩
    cases hf : fo h kids with
    | none => rfl
    | some x => rw [hf] at e; cases e
end St
end Go.Proofs.YtknhoagicdfikaaGreatDoor
