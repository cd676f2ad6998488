import Derived.Test.YtekeoilmfbcefaaGreatDoorM16
import Derived.Test.YtekeoilmfbcefaaGreatDoorM23
import Derived.Test.YtekeoilmfbcefaaGreatDoorM14
import Derived.Test.YtekeoilmfbcefaaGreatDoorDd2
import Derived.Test.YtekeoilmfbcefaaGreatDoorM15
import Derived.Laws.EntriesVeiled
import Derived.Test.YtekeoilmfbcefaaGreatDoorM31
namespace Go.Proofs.YtekeoilmfbcefaaGreatDoor
set_option maxHeartbeats 1000000
set_option maxRecDepth 100000
open Go.RowKit
theorem uw (Q : Nat → Prop) (kd : Int) (a : Ck.T2) (A : Option Addr) (n c : Nat) (w : World) (hkd : 3 ≤ kd ∧ kd ≤ 5) (hL : Ck.Ly Q w a A n c) (hok : Ty.okT a.1 a.2 = true) :
  Calls Tryz.prog 31 #[.int .i8 kd, .agg #[.int .i8 a.1, .slice A n c]] w (Cg.AsPost Q w (St.ops.asO kd a) (St.ops.asl kd a) (St.ops.asr kd a)) := by
 by_cases hk : a.1 = kd
 ·obtain ⟨k, kids⟩ := a
  dsimp only at hk hok ⊢
  subst hk
  obtain ⟨a1, a2, p1, f1, a3, a4, p2, f2, rfl, o1, o2⟩ := Ty.jg hok hkd.1
  have hn := hL.is.n_eq
  simp only [Ty.len] at hn
  subst hn
  obtain ⟨bb, oo, B1, c1, B2, c2, rfl, hQ, x0, x1, x2, x3, L1, L2⟩ := hL.parts
  have e1 : St.ops.asO k (k, .node a1 a2 p1 f1 (.node a3 a4 p2 f2 .nil)) = true := by show (k == k) = true; simp
  have e2 : St.ops.asl k (k, .node a1 a2 p1 f1 (.node a3 a4 p2 f2 .nil)) = (p1, f1) := by show (if k = k then _ else _) = _; rw [if_pos rfl]; rfl
  have e3 : St.ops.asr k (k, .node a1 a2 p1 f1 (.node a3 a4 p2 f2 .nil)) = (p2, f2) := by show (if k = k then _ else _) = _; rw [if_pos rfl]; rfl
  rw [e1, e2, e3]
  have hB3 := qU w (.cells #[.int .i8 k, .slice (some ⟨bb, oo, none⟩) 2 c] 25) (.cells #[.int .i8 0, .slice none 0 0] 25) (.cells #[.int .i8 0, .slice none 0 0] 25)
  obtain ⟨h0, h1, h2⟩ := qh w (.cells #[.int .i8 k, .slice (some ⟨bb, oo, none⟩) 2 c] 25) (.cells #[.int .i8 0, .slice none 0 0] 25) (.cells #[.int .i8 0, .slice none 0 0] 25)
  have HL1 := k0_ (((L1.weak (Q' := Ck.Cut Q w.heap.size (w.heap.size + 3)) (fun b hl hq => .inl ⟨hq, hl⟩)).later hB3))
  have HL2 := k0_ (((L2.weak (Q' := Ck.Cut Q w.heap.size (w.heap.size + 3)) (fun b hl hq => .inl ⟨hq, hl⟩)).later hB3))
  have x0 := zB x0 hB3
  have x1 := zB x1 hB3
  have x2 := zB x2 hB3
  have x3 := zB x3 hB3
  have HB3 := k0_ hB3
  clear e1 e2 e3 hok hL hQ L1 L2 hB3 o1 o2 hkd
  generalize Ty.len f1 = m1 at *
  generalize Ty.len f2 = m2 at *
  have ek : (k != k) = false := by simp
  go_enter Tryz.func31, Tryz.ntmps31
  go_upto_region 1 with fail
  generalize ((w.alloc (.cells #[.int .i8 k, .slice (some ⟨bb, oo, none⟩) 2 c] 25)).alloc (.cells #[.int .i8 0, .slice none 0 0] 25)).alloc (.cells #[.int .i8 0, .slice none 0 0] 25) = w1 at *
  obtain ⟨r0, r1, -, -, rl⟩ := zF h0
  have H1 := k0_ h1
  have H2 := k0_ h2
  obtain ⟨y0, y1, y2, y3, yl⟩ := zF h1
  obtain ⟨z0, z1, z2, z3, zl⟩ := zF h2
  clear h0 h1 h2
  go_wp2_with fail
  go_region
  have Z4 := k0_ (zL (zK H1.out (.int .i8 p1) (.slice B1 m1 c1)) (show w.heap.size + 1 + 1 ≠ w.heap.size + 1 by omega) (.int .i8 p2) (.slice B2 m2 c2))
  have Z5 := k0_ (zK (zL H2.out (show w.heap.size + 1 ≠ w.heap.size + 1 + 1 by omega) (.int .i8 p1) (.slice B1 m1 c1)) (.int .i8 p2) (.slice B2 m2 c2))
  have HBF := k0_ (zG (zG HB3.out (show w.heap.size ≤ w.heap.size + 1 by omega) (.int .i8 p1) (.slice B1 m1 c1)) (show w.heap.size ≤ w.heap.size + 1 + 1 by omega) (.int .i8 p2) (.slice B2 m2 c2))
  have HJ1 := k0_ ((HL1.out.set2 (X := w.heap.size + 1) (fun b h => h.ne (by omega) (by omega)) (.int .i8 p1) (.slice B1 m1 c1)).set2 (X := w.heap.size + 1 + 1) (fun b h => h.ne (by omega) (by omega)) (.int .i8 p2) (.slice B2 m2 c2))
  have HJ2 := k0_ ((HL2.out.set2 (X := w.heap.size + 1) (fun b h => h.ne (by omega) (by omega)) (.int .i8 p1) (.slice B1 m1 c1)).set2 (X := w.heap.size + 1 + 1) (fun b h => h.ne (by omega) (by omega)) (.int .i8 p2) (.slice B2 m2 c2))
  generalize ((((w1.setCell ⟨w.heap.size + 1, 0, none⟩ (.int .i8 p1)).setCell ⟨w.heap.size + 1, 1, none⟩ (.slice B1 m1 c1)).setCell ⟨w.heap.size + 1 + 1, 0, none⟩ (.int .i8 p2)).setCell ⟨w.heap.size + 1 + 1, 1, none⟩ (.slice B2 m2 c2)) = w6 at *
  have K4 : Hid (w6.drew.heap[w.heap.size + 1]? = some (.cells #[.int .i8 p1, .slice B1 m1 c1] 25 (0, 0))) := k0_ Z4.out
  have K5 : Hid (w6.drew.heap[w.heap.size + 1 + 1]? = some (.cells #[.int .i8 p2, .slice B2 m2 c2] 25 (0, 0))) := k0_ Z5.out
  have HJ1 := k0_ (HJ1.out.later (Below.refl _ _).drew)
  have HJ2 := k0_ (HJ2.out.later (Below.refl _ _).drew)
  have HBF := k0_ (HBF.out.drew)
  clear Z4 Z5 H1 H2 HL1 HL2 HB3 r0 r1 rl x0 x1 x2 x3 y0 y1 y2 y3 yl z0 z1 z2 z3 zl
  generalize w6.drew = w7 at *
  obtain ⟨k0, k1, -, -, -⟩ := zF K4.out
  obtain ⟨k2, k3, -, -, -⟩ := zF K5.out
  go_wp2_with fail
  refine bodyPost_ret (v := .tuple #[.agg #[.int .i8 p1, .slice B1 m1 c1], .agg #[.int .i8 p2, .slice B2 m2 c2], .bool true]) (by simp [results, Tryz.results31, go_sem, k0, k1, k2, k3]) rfl ⟨B1, m1, c1, B2, m2, c2, rfl, HJ1.out.weak (fun b _ h => h.out (by omega)), HJ2.out.weak (fun b _ h => h.out (by omega)), HBF.out⟩
 ·have e1 : St.ops.asO kd a = false := by show (a.1 == kd) = false; simpa using hk
  have e2 : St.ops.asl kd a = (0, .nil) := by show (if a.1 = kd then _ else _) = _; rw [if_neg hk]
  have e3 : St.ops.asr kd a = (0, .nil) := by show (if a.1 = kd then _ else _) = _; rw [if_neg hk]
  rw [e1, e2, e3]
  have hB3 := qU w (.cells #[.int .i8 a.1, .slice A n c] 25) (.cells #[.int .i8 0, .slice none 0 0] 25) (.cells #[.int .i8 0, .slice none 0 0] 25)
  obtain ⟨h0, h1, h2⟩ := qh w (.cells #[.int .i8 a.1, .slice A n c] 25) (.cells #[.int .i8 0, .slice none 0 0] 25) (.cells #[.int .i8 0, .slice none 0 0] 25)
  have HB3 := k0_ hB3
  have ek : (a.1 != kd) = true := by simpa using hk
  clear e1 e2 e3 hok hL hB3 hkd hk
  go_enter Tryz.func31, Tryz.ntmps31
  go_upto_region 1 with fail
  generalize ((w.alloc (.cells #[.int .i8 a.1, .slice A n c] 25)).alloc (.cells #[.int .i8 0, .slice none 0 0] 25)).alloc (.cells #[.int .i8 0, .slice none 0 0] 25) = w1 at *
  obtain ⟨r0, r1, -, -, rl⟩ := zF h0
  have H1 := k0_ h1
  have H2 := k0_ h2
  obtain ⟨y0, y1, y2, y3, yl⟩ := zF h1
  obtain ⟨z0, z1, z2, z3, zl⟩ := zF h2
  clear h0 h1 h2
  go_wp2_with fail
  go_region
  have Z4 := k0_ (zL (zK H1.out (.int .i8 0) (.slice none 0 0)) (show w.heap.size + 1 + 1 ≠ w.heap.size + 1 by omega) (.int .i8 0) (.slice none 0 0))
  have Z5 := k0_ (zK (zL H2.out (show w.heap.size + 1 ≠ w.heap.size + 1 + 1 by omega) (.int .i8 0) (.slice none 0 0)) (.int .i8 0) (.slice none 0 0))
  have HBF := k0_ (zG (zG HB3.out (show w.heap.size ≤ w.heap.size + 1 by omega) (.int .i8 0) (.slice none 0 0)) (show w.heap.size ≤ w.heap.size + 1 + 1 by omega) (.int .i8 0) (.slice none 0 0))
  generalize ((((w1.setCell ⟨w.heap.size + 1, 0, none⟩ (.int .i8 0)).setCell ⟨w.heap.size + 1, 1, none⟩ (.slice none 0 0)).setCell ⟨w.heap.size + 1 + 1, 0, none⟩ (.int .i8 0)).setCell ⟨w.heap.size + 1 + 1, 1, none⟩ (.slice none 0 0)) = w6 at *
  have K4 : Hid (w6.drew.heap[w.heap.size + 1]? = some (.cells #[.int .i8 0, .slice none 0 0] 25 (0, 0))) := k0_ Z4.out
  have K5 : Hid (w6.drew.heap[w.heap.size + 1 + 1]? = some (.cells #[.int .i8 0, .slice none 0 0] 25 (0, 0))) := k0_ Z5.out
  have HBF := k0_ (HBF.out.drew)
  clear Z4 Z5 H1 H2 HB3 r0 r1 rl y0 y1 y2 y3 yl z0 z1 z2 z3 zl
  generalize w6.drew = w7 at *
  obtain ⟨k0, k1, -, -, -⟩ := zF K4.out
  obtain ⟨k2, k3, -, -, -⟩ := zF K5.out
  go_wp2_with fail
  refine bodyPost_ret (v := .tuple #[.agg #[.int .i8 0, .slice none 0 0], .agg #[.int .i8 0, .slice none 0 0], .bool false]) (by simp [results, Tryz.results31, go_sem, k0, k1, k2, k3]) rfl ⟨none, 0, 0, none, 0, 0, rfl, Ck.Ly.zero _ _, Ck.Ly.zero _ _, HBF.out⟩
theorem zBM (Q : Nat → Prop) (a : Ck.T2) (A : Option Addr) (n c : Nat) (b : Ck.T2) (A' : Option Addr) (n' c' : Nat) (w : World) (hL : Ck.Ly Q w a A n c) :
  Calls Tryz.prog 32 #[.agg #[.int .i8 a.1, .slice A n c], .agg #[.int .i8 b.1, .slice A' n' c']] w (Ck.Gives Q w a) := by
 have hB3 := qU w (.cells #[.int .i8 a.1, .slice A n c] 25) (.cells #[.int .i8 b.1, .slice A' n' c'] 25) (.cells #[.int .i8 a.1, .slice A n c] 25)
 have HL := k0_ ((hL.weak (Q' := Ck.Cut Q w.heap.size w.heap.size) (fun b hl hq => .inl ⟨hq, hl⟩)).later hB3)
 have HB3 := k0_ hB3
 clear hL hB3
 go_enter Tryz.func32, Tryz.ntmps32
 go_wp2_with fail
 refine bodyPost_ret (v := .agg #[.int .i8 a.1, .slice A n c]) (by simp [results, Tryz.results32, go_sem, *]) rfl ⟨A, n, c, rfl, HL.out, HB3.out⟩
theorem wh (f : FuncId) (cp : Array Value) (w : World) : Calls Tryz.prog 12 #[.func (Fn.func f) #[] cp] w fun e w' => e = .returned (.agg #[.func (Fn.func f) #[] cp, .func (Fn.func 30) #[] #[], .func (Fn.func 31) #[] #[], .func (Fn.func 32) #[] #[], .nilFunc]) ∧ Below w.heap.size w w' := by
 have HB := k0_ (zS w (.cells #[.func (Fn.func f) #[] cp, .func (Fn.func 30) #[] #[], .func (Fn.func 31) #[] #[], .func (Fn.func 32) #[] #[], .nilFunc] 41))
 go_enter Tryz.func12, Tryz.ntmps12
 go_wp2_with fail
 refine bodyPost_ret (v := .agg #[.func (Fn.func f) #[] cp, .func (Fn.func 30) #[] #[], .func (Fn.func 31) #[] #[], .func (Fn.func 32) #[] #[], .nilFunc]) (by simp [results, Tryz.results12, go_sem, *]) rfl ⟨rfl, HB.out⟩
end Go.Proofs.YtekeoilmfbcefaaGreatDoor
namespace Go.Proofs.YtekeoilmfbcefaaGreatDoor
open Go.RowKit
theorem zBO {u : World} {X : Nat} {x0 x1 x2 x3 x4 : Value} {t : TypeId} (h : u.heap[X]? = some (.cells #[x0, x1, x2, x3, x4] t (0, 0))) (e : Value) : (u.setCell ⟨X, 4, none⟩ e).heap[X]? = some (.cells #[x0, x1, x2, x3, e] t (0, 0)) := by
 simp [World.setCell, Array.getElem?_modify, h]
theorem vU {u : World} {X Y : Nat} {o : Obj} (h : u.heap[Y]? = some o) (hne : X ≠ Y) (e : Value) : (u.setCell ⟨X, 4, none⟩ e).heap[Y]? = some o := by
 exact zC7
set_option maxHeartbeats 2000000 in
set_option maxRecDepth 100000 in
theorem vY (w : World) : Calls Tryz.prog 7 #[] w fun e w' => ∃ gK, e = .returned (.agg #[.func (Fn.func 33) #[] #[.pointer (some ⟨gK, 0, none⟩)], .func (Fn.func 30) #[] #[], .func (Fn.func 31) #[] #[], .func (Fn.func 32) #[] #[], .func (Fn.func 14) #[] #[]]) ∧ w'.heap[gK]? = some (.cells #[.int .i8 16] 22 (0, 0)) ∧ w.heap.size ≤ gK ∧ Below w.heap.size w w' := by
 have HB := k0_ (zS w (.cells #[.nilFunc, .nilFunc, .nilFunc, .nilFunc, .nilFunc] 41))
 have H0 := k0_ (zD w (.cells #[.nilFunc, .nilFunc, .nilFunc, .nilFunc, .nilFunc] 41))
 have CW := k0_ (fun W : World => yj 16 W)
 have CS := k0_ (fun (g : Nat) (W : World) => wh 33 #[.pointer (some ⟨g, 0, none⟩)] W)
 go_enter Tryz.func7, Tryz.ntmps7
 go_upto_region 1 with fail
 generalize w.alloc (.cells #[.nilFunc, .nilFunc, .nilFunc, .nilFunc, .nilFunc] 41) = w1 at *
 go_wp2_with fail
 refine (CW.out _).mono ?_
 rintro e w2 ⟨g, rfl, hk, hg, hb⟩
 have HB2 := kt_ HB hb
 have H2 := kp_ hb H0
 have HG := k0_ hk
 have HL := k0_ (Nat.lt_of_lt_of_le (zC H0.out) hg)
 clear hk hg hb
 go_wp2_with fail
 refine (CS.out g _).mono ?_
 rintro e w3 ⟨rfl, hb⟩
 have hb4 := zS w3 (.cells #[.func (Fn.func 33) #[] #[.pointer (some ⟨g, 0, none⟩)], .func (Fn.func 30) #[] #[], .func (Fn.func 31) #[] #[], .func (Fn.func 32) #[] #[], .nilFunc] 41)
 have H4 := k0_ (zD w3 (.cells #[.func (Fn.func 33) #[] #[.pointer (some ⟨g, 0, none⟩)], .func (Fn.func 30) #[] #[], .func (Fn.func 31) #[] #[], .func (Fn.func 32) #[] #[], .nilFunc] 41))
 have HB4 := k0_ (HB2.out.trans ((hb.trans (hb4.mono hb.size)).mono HB2.out.size))
 have H24 := k0_ (zA (hb.trans (hb4.mono hb.size)) (zC H2.out) H2.out)
 have HG4 := k0_ (zA (hb.trans (hb4.mono hb.size)) (zC HG.out) HG.out)
 have HL3 := k0_ (Nat.lt_of_lt_of_le (zC HG.out) hb.size)
 have HL4 := k0_ (Nat.lt_of_lt_of_le (zC H2.out) hb.size)
 clear hb hb4
 go_upto_region 2 with fail
 generalize w3.alloc (.cells #[.func (Fn.func 33) #[] #[.pointer (some ⟨g, 0, none⟩)], .func (Fn.func 30) #[] #[], .func (Fn.func 31) #[] #[], .func (Fn.func 32) #[] #[], .nilFunc] 41) = w4 at *
 generalize w3.heap.size = S3 at *
 obtain ⟨r0, r1, r2, r3, r4, z0, z1, z2, z3, z4, rl⟩ := qp H4.out
 obtain ⟨s0, s1, s2, s3, s4, y0, y1, y2, y3, y4, sl⟩ := qp H24.out
 have H5 := k0_ (zBO H4.out (.func (Fn.func 14) #[] #[]))
 have H25 := k0_ (vU H24.out (show S3 ≠ w.heap.size by have := HL4.out; omega) (.func (Fn.func 14) #[] #[]))
 have HG5 := k0_ (vU HG4.out (show S3 ≠ g by have := HL3.out; omega) (.func (Fn.func 14) #[] #[]))
 have HB5 := k0_ (HB4.out.setCell (p := ⟨S3, 4, none⟩) (show w.heap.size ≤ S3 by have := HL4.out; omega) (.func (Fn.func 14) #[] #[]))
 go_upto_region 3 with fail
 generalize w4.setCell ⟨S3, 4, none⟩ (.func (Fn.func 14) #[] #[]) = w5 at *
 clear r0 r1 r2 r3 r4 z0 z1 z2 z3 z4 rl s0 s1 s2 s3 s4 y0 y1 y2 y3 y4 sl
 obtain ⟨r0, r1, r2, r3, r4, z0, z1, z2, z3, z4, rl⟩ := qp H5.out
 obtain ⟨s0, s1, s2, s3, s4, y0, y1, y2, y3, y4, sl⟩ := qp H25.out
 go_wp2_with fail
 have k1 := zCX H25.out (.func (Fn.func 33) #[] #[.pointer (some ⟨g, 0, none⟩)]) (.func (Fn.func 30) #[] #[]) (.func (Fn.func 31) #[] #[]) (.func (Fn.func 32) #[] #[]) (.func (Fn.func 14) #[] #[])
 obtain ⟨t0, t1, t2, t3, t4, -⟩ := qp k1
 refine bodyPost_ret (v := .agg #[.func (Fn.func 33) #[] #[.pointer (some ⟨g, 0, none⟩)], .func (Fn.func 30) #[] #[], .func (Fn.func 31) #[] #[], .func (Fn.func 32) #[] #[], .func (Fn.func 14) #[] #[]]) (by simp [results, Tryz.results7, go_sem, t0, t1, t2, t3, t4]) rfl ⟨g, rfl, ?_, ?_, zAv HB5.out (Nat.le_refl _) _ _ _ _ _⟩
 ·exact ww HG5.out (show w.heap.size ≠ g by have := HL.out; omega) _ _ _ _ _
 ·have := HL.out; omega
def kernRv (gK : Nat) : Cg.Rv where
 fr := 33
 cpt := #[.pointer (some ⟨gK, 0, none⟩)]
 vg := .func (Fn.func 14) #[] #[]
 fa := 30
 fm := 31
 ft := 32
 D := Kn.ops
 cfr := fun args W => by simp [go_sem]
 cfa := fun args W => by simp [go_sem]
 cfm := fun args W => by simp [go_sem]
 cft := fun args W => by simp [go_sem]
 agC := fun k kids A n c k' kids' A' n' c' w h1 h2 hS => zCY k kids A n c k' kids' A' n' c' w h1 h2 hS
 asC := fun Q kd a A n c w hkd hL hok _ => uw Q kd a A n c w hkd hL hok
 mtC := fun Q a A n c b A' n' c' w h1 _ _ _ => zBM Q a A n c b A' n' c' w h1
 gC := fun _ => ⟨14, rfl, (fun args W => by simp [go_sem]), fun k kids A n c k' kids' A' n' c' w h1 h2 hS => zCD k kids A n c k' kids' A' n' c' w h1 h2 hS⟩
namespace Kn
def TyPost (w : World) (r : Ck.R) (e : Ending) (w' : World) : Prop := match r with
 | .ok a => ∃ G m c, e = .returned (.tuple #[.agg #[.int .i8 a.1, .slice G m c], .int .i64 0]) ∧ Ck.Ly (fun b => w.heap.size ≤ b) w' a G m c ∧ Below w.heap.size w w'
 | .bad E _ _ => e = .returned (.tuple #[.agg #[.int .i8 0, .slice none 0 0], .int .i64 (num E)]) ∧ Below w.heap.size w w'
end Kn
namespace Kn
open Ck
theorem zEV : Qr.Sd ops := ⟨Qr.zA2.l, Qr.zA2.r, Qr.zA2.m⟩
def kernQ : Qr.Qv where
 md := 2
 D := ops
 agC := fun k kids A n c k' kids' A' n' c' w h1 h2 => zBX 2 rfl k kids A n c k' kids' A' n' c' w h1 h2
 asC := fun Q kd a A n c w hkd hL hok => zAE 2 rfl Q kd a A n c w hkd hL hok
 mtC := fun Q a A n c b A' n' c' w h1 h2 => zCo 2 rfl Q a A n c b A' n' c' w h1 h2
 castC := fun _ => ⟨fun k kids A n c k' kids' A' n' c' w h1 h2 => kv k kids A n c k' kids' A' n' c' w h1 h2, fun k kids A n c k' kids' A' n' c' w h1 h2 => zAG k kids A n c k' kids' A' n' c' w h1 h2⟩
def NB (r : R) : Prop := ∀ E p x, r = .bad E p x → E ≠ 30
theorem NB.ok (a : T2) : NB (.ok a) := fun _ _ _ e => by cases e
theorem NB.fault (h : Hd) {E : Int} (hE : E ≠ 30) : NB (fault h E) := fun _ _ _ e => by injection e with e; rw [← e]; exact hE
theorem NB.ite {c : Prop} [Decidable c] {x y : R} (hx : NB x) (hy : NB y) : NB (if c then x else y) := by split <;> assumption
theorem NB.bnd {r : R} {f : T2 → R} (hr : NB r) (hf : ∀ a, NB (f a)) : NB (Ck.bnd r f) := by
 cases r with
 | ok a => exact hf a
 | bad E p x => exact fun E' p' x' e => hr E' p' x' e
theorem NB.lift {h : Hd} {r : R} (hr : NB r) : NB (Ck.lift h r) := by
 cases r with
 | ok a =>
  show NB (if chk a = 0 then _ else _)
  refine NB.ite (NB.ok _) fun E p x e => ?_
  injection e with e
  rw [← e]
  unfold chk Ty.chk
  split
  ·decide
  ·split
   ·decide
   ·split <;> decide
 | bad E p x => exact hr
theorem zEW (D : Cg.Ops) (F : Hd → Tm → Env → R) (hF : ∀ h k l, NB (F h k l)) (h : Hd) (kids : Tm) (l : Env) : NB (Cg.raw D F h kids l) := by
 unfold Cg.raw Cg.over Cg.meet
 repeat' first
  | exact NB.ok _
  | exact NB.fault _ (by decide)
  | exact hF _ _ _
  | refine NB.ite ?_ ?_
  | refine NB.bnd ?_ fun _ => ?_
 cases fnd l h.name with
 | some a => exact NB.ok a
 | none => exact fun E p x e => by injection e with e; rw [← e]; decide
theorem zEF (D : Cg.Ops) : ∀ (K : Nat) (h : Hd) (kids : Tm) (l : Env), NB (Cg.ty D K h kids l)
 | 0, _, _, _ => NB.fault _ (by decide)
 | K + 1, h, kids, l => NB.lift (zEW D _ (fun h k l => zEF D K h k l) h kids l)
theorem zDo {h : Hd} {kids : Tm} (e : Tm.chk h kids = 0) : Qr.Good (ops.ca = true) h kids := ⟨(Ck.vF e).2.2, .inl rfl, (Ck.vF e).1, (Ck.vF e).2.1⟩
theorem zCR {h : Hd} {kids : Tm} : tell h kids = if Qr.sndK 16 h kids = 0 then Cg.ty ops (Tm.nodes kids + 1) h kids [] else .bad (Qr.sndK 16 h kids) 0 e0 := by
 unfold tell Cg.tellR
 show (match refKO 16 h kids with | some x => R.bad x.1 x.2 e0 | none => _) = _
 have e : refK 16 h kids = Qr.sndK 16 h kids := rfl
 unfold refKO
 rw [e]
 by_cases q : Qr.sndK 16 h kids = 0
 ·rw [if_pos q, if_pos q]
 ·rw [if_neg q, if_neg q]
theorem zDX {h : Hd} {kids : Tm} (q : Qr.sndK 16 h kids ≠ 0) : num (Qr.sndK 16 h kids) = Qr.sndK 16 h kids := by
 by_cases h0 : Tm.chk h kids = 0
 ·cases hc : hasT 16 h kids
  ·exact absurd (Qr.zB0 h0 hc) q
  ·rw [Qr.yu h0 hc]; rfl
 ·rw [Qr.kg h0]; exact zDv h0
theorem zCW {h : Hd} {kids : Tm} (q : Qr.sndK 16 h kids = 0) : Tm.chk h kids = 0 := by
 by_cases h0 : Tm.chk h kids = 0
 ·exact h0
 ·rw [Qr.kg h0] at q; omega
def RPost (w : World) (r : R) (e : Ending) (w' : World) : Prop := match r with
 | .ok a => ∃ G m c, e = .returned (.tuple #[.agg #[.int .i8 a.1, .slice G m c], .int .i64 0]) ∧ Ty.Is w' a.1 a.2 G m c ∧ Below w.heap.size w w'
 | .bad E _ _ => e = .returned (.tuple #[.agg #[.int .i8 0, .slice none 0 0], .int .i64 (num E)]) ∧ Below w.heap.size w w'
end Kn
set_option maxHeartbeats 4000000 in
set_option maxRecDepth 100000 in
theorem uC (h : Hd) (kids : Tm) (p : Pl) (w : World) (hIs : Tm.Is w h kids p) :
  Calls Tryz.prog 5 #[.agg (tC_ h p)] w (Kn.RPost w (Kn.tell h kids)) := by
 try unfold tC_
 rw [Kn.zCR]
 have hb0 := zW w (.cells (tC_ h p) 28) (.cells #[.int .i8 0, .slice none 0 0] 25)
 obtain ⟨x0, x1⟩ := zR w (.cells (tC_ h p) 28) (.cells #[.int .i8 0, .slice none 0 0] 25)
 generalize hw1 : (w.alloc (.cells (tC_ h p) 28)).alloc (.cells #[.int .i8 0, .slice none 0 0] 25) = w1 at *
 have HW1 := k0_ hw1
 have HB0 := k0_ hb0
 have X0 := k0_ x0
 have X1 := k0_ x1
 have CS := k0_ (u6 16 h kids p w1 (hIs.below hb0))
 have HI := k0_ hIs
 clear hb0 x0 x1 hw1 hIs
 by_cases hs : Qr.sndK 16 h kids = 0
 ·rw [if_pos hs]
  rw [hs] at CS
  have HGD := Kn.zDo (Kn.zCW hs)
  have CR := k0_ (fun (W : World) (hb : Below w.heap.size w W) => (show Calls Tryz.prog 11 #[.agg (tC_ h p), .slice none 0 0, .int .i64 2] W (Qr.Post (fun b => b < w.heap.size) W (Cg.ty Kn.ops (Tm.nodes kids + 1) h kids [])) from zA6 Kn.kernQ Kn.zEV (Tm.nodes kids + 1) h kids p w (Nat.lt_succ_self _) HI.out HGD (fun b => b < w.heap.size) [] none 0 0 W hb (fun b hb => hb) (Ck.EAt.empty _ _) (fun x hx => by cases hx) (by have := HGD.2.2.1; unfold Tm.nd at this; simp only [List.length_nil]; omega)))
  have hnb := Kn.zEF Kn.ops (Tm.nodes kids + 1) h kids []
  generalize Cg.ty Kn.ops (Tm.nodes kids + 1) h kids [] = R at *
  clear hs HGD
  go_enter Tryz.func5, Tryz.ntmps5
  go_upto_region 1 with fail
  rw [HW1.out]
  obtain ⟨q0, q1, q2, q3, q4, q5, q6, q7, q8, q9, q10, ql⟩ := zJ X0.out
  go_wp2_with fail
  refine CS.out.mono ?_
  rintro e w2 ⟨rfl, hb2⟩
  have HB2 := kt_ HB0 hb2
  have X02 := kp_ hb2 X0
  have X12 := kp_ hb2 X1
  clear hb2 q0 q1 q2 q3 q4 q5 q6 q7 q8 q9 q10 ql
  obtain ⟨q0, q1, q2, q3, q4, q5, q6, q7, q8, q9, q10, ql⟩ := zJ X02.out
  go_wp2_with fail
  refine (CR.out _ HB2.out).mono ?_
  rintro e w3 ⟨hnz, G, m, c, he, hl, hb3⟩
  cases R with
  | ok a =>
   obtain rfl : e = .returned (.tuple #[.agg #[.int .i8 a.1, .slice G m c], .agg #[.int .i64 0, .int .i64 0, .string ⟨#[]⟩]]) := he
   have hl : Ck.Ly _ w3 a G m c := hl
   have hb4 := zW w3 (.cells #[.int .i8 a.1, .slice G m c] 25) (.cells #[.int .i64 0, .int .i64 0, .string ⟨#[]⟩] 47)
   obtain ⟨y5, y6⟩ := zR w3 (.cells #[.int .i8 a.1, .slice G m c] 25) (.cells #[.int .i64 0, .int .i64 0, .string ⟨#[]⟩] 47)
   have Y5 := k0_ y5
   have Y6 := k0_ y6
   have hb34 := hb3.trans (hb4.mono hb3.size)
   have X14 := kp_ hb34 X12
   have HB4 := kt_ HB2 hb34
   have HL := k0_ (Ck.Ly.weak (hl.later hb4) (Q' := fun b => b ≠ w.heap.size + 1) (fun b _ hq => by
    have h1 := HB2.out.size
    have h2 := zC X12.out
    rcases hq with ⟨hq, -⟩ | hq
    ·have hq : b < w.heap.size := hq; omega
    ·omega))
   clear hnb hnz hl hb3 hb4 hb34 y5 y6 q0 q1 q2 q3 q4 q5 q6 q7 q8 q9 q10 ql
   go_upto_region 5 with fail
   generalize hw4 : (w3.alloc (.cells #[.int .i8 a.1, .slice G m c] 25)).alloc (.cells #[.int .i64 0, .int .i64 0, .string ⟨#[]⟩] 47) = w4 at *
   clear hw4
   obtain ⟨u0, u1, -, -, ul⟩ := zF Y5.out
   obtain ⟨v0, v1, v2, -, -, -, vl⟩ := cells3 Y6.out
   obtain ⟨k0, k1, f0, f1, kl⟩ := zF X14.out
   go_wp2_with fail
   have z3 := zK X14.out (.int .i8 a.1) (.slice G m c)
   obtain ⟨j0, j1, -, -, -⟩ := zF z3
   refine bodyPost_ret (v := .tuple #[.agg #[.int .i8 a.1, .slice G m c], .int .i64 0]) (by simp [results, Tryz.results5, go_sem, j0, j1]) rfl ⟨G, m, c, rfl, ?_, zG HB4.out (by omega) _ _⟩
   exact (Ck.Ly.set2 HL.out (fun b hq => hq) _ _).is
  | bad E pp x =>
   obtain rfl : e = .returned (.tuple #[.agg #[.int .i8 0, .slice G m c], .agg #[.int .i64 E, .int .i64 pp, .string x]]) := he
   have h30 : E ≠ 30 := hnb E pp x rfl
   have h0 : E ≠ 0 := hnz E pp x rfl
   have e0 : (E == 0) = false := by simpa using h0
   have hne1 : ¬ (w3.heap.size = w.heap.size) := by have h1 := hb3.size; have h2 := zC X12.out; omega
   have hne2 : ¬ (w.heap.size = w3.heap.size) := fun q => hne1 q.symm
   have hb4 := zW w3 (.cells #[.int .i8 0, .slice G m c] 25) (.cells #[.int .i64 E, .int .i64 pp, .string x] 47)
   obtain ⟨y5, y6⟩ := zR w3 (.cells #[.int .i8 0, .slice G m c] 25) (.cells #[.int .i64 E, .int .i64 pp, .string x] 47)
   have Y6 := k0_ y6
   have hb34 := hb3.trans (hb4.mono hb3.size)
   have X14 := kp_ hb34 X12
   have HB4 := kt_ HB2 hb34
   clear hnb hnz hl hb3 hb4 hb34 y5 y6 q0 q1 q2 q3 q4 q5 q6 q7 q8 q9 q10 ql
   go_upto_region 5 with fail
   generalize hw4 : (w3.alloc (.cells #[.int .i8 0, .slice G m c] 25)).alloc (.cells #[.int .i64 E, .int .i64 pp, .string x] 47) = w4 at *
   clear hw4
   obtain ⟨v0, v1, v2, -, -, -, vl⟩ := cells3 Y6.out
   obtain ⟨k0, k1, f0, f1, kl⟩ := zF X14.out
   have z3 := zK X14.out (.int .i8 0) (.slice none 0 0)
   by_cases h12 : E = 32 ∨ E = 31
   ·have hn : Kn.num E = E := by unfold Kn.num; rw [if_pos (.inr h12)]
    have HBF := k0_ (zG HB4.out (show w.heap.size ≤ w.heap.size + 1 by omega) (.int .i8 0) (.slice none 0 0))
    have HBD := k0_ (HBF.out.drew)
    have HN := k0_ hn
    have Z3 := k0_ z3
    clear hn h30 h0 z3
    rcases h12 with rfl | rfl
    all_goals
     go_wp2_with fail
     go_region
     generalize (w4.setCell ⟨w.heap.size + 1, 0, none⟩ (.int .i8 0)).setCell ⟨w.heap.size + 1, 1, none⟩ (.slice none 0 0) = w6 at *
     have K4 : Hid (w6.drew.heap[w.heap.size + 1]? = some (.cells #[.int .i8 0, .slice none 0 0] 25 (0, 0))) := k0_ Z3.out
     clear Z3 HBF
     generalize w6.drew = w7 at *
     obtain ⟨j0, j1, -, -, -⟩ := zF K4.out
     go_wp2_with fail
     refine bodyPost_ret (by simp [results, Tryz.results5, go_sem, j0, j1]; rfl) rfl ⟨by rw [HN.out], HBD.out⟩
   ·have e32 : (E == 32) = false := by simp; omega
    have e31 : (E == 31) = false := by simp; omega
    have hn : Kn.num E = 130 := by unfold Kn.num; rw [if_neg (by omega)]
    have HBF := k0_ (zG HB4.out (show w.heap.size ≤ w.heap.size + 1 by omega) (.int .i8 0) (.slice none 0 0))
    have HN := k0_ hn
    clear hn h12 h30 h0
    go_wp2_with fail
    obtain ⟨j0, j1, -, -, -⟩ := zF z3
    refine bodyPost_ret (v := .tuple #[.agg #[.int .i8 0, .slice none 0 0], .int .i64 130]) (by simp [results, Tryz.results5, go_sem, j0, j1]) rfl ⟨by rw [HN.out], HBF.out⟩
 ·rw [if_neg hs]
  have hne : (Qr.sndK 16 h kids != 0) = true := by simpa using hs
  have HN := k0_ (Kn.zDX hs)
  generalize Qr.sndK 16 h kids = S at *
  clear hs
  go_enter Tryz.func5, Tryz.ntmps5
  go_upto_region 1 with fail
  rw [HW1.out]
  obtain ⟨q0, q1, q2, q3, q4, q5, q6, q7, q8, q9, q10, ql⟩ := zJ X0.out
  go_wp2_with fail
  refine CS.out.mono ?_
  rintro e w2 ⟨rfl, hb2⟩
  have HB2 := kt_ HB0 hb2
  have X02 := kp_ hb2 X0
  have X12 := kp_ hb2 X1
  clear hb2 q0 q1 q2 q3 q4 q5 q6 q7 q8 q9 q10 ql
  obtain ⟨k0, k1, f0, f1, kl⟩ := zF X12.out
  have z3 := zK X12.out (.int .i8 0) (.slice none 0 0)
  have HBF := k0_ (zG HB2.out (show w.heap.size ≤ w.heap.size + 1 by omega) (.int .i8 0) (.slice none 0 0))
  go_wp2_with fail
  obtain ⟨j0, j1, -, -, -⟩ := zF z3
  refine bodyPost_ret (v := .tuple #[.agg #[.int .i8 0, .slice none 0 0], .int .i64 S]) (by simp [results, Tryz.results5, go_sem, j0, j1]) rfl ⟨by rw [HN.out], HBF.out⟩
end Go.Proofs.YtekeoilmfbcefaaGreatDoor
