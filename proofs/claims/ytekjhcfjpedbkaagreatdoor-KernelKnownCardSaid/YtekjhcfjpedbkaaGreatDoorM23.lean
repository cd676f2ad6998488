/-
  Layers 11 and 13: partsOf, the Meet; the strict rules. Layer 13: ofCasts; the kernel's rules.
-/
import Derived.Test.YtekjhcfjpedbkaaGreatDoorM18
import Derived.Test.YtekjhcfjpedbkaaGreatDoorM22
import Derived.Test.YtekjhcfjpedbkaaGreatDoorM16
import Derived.Test.YtekjhcfjpedbkaaGreatDoorM17
import Derived.Laws.EntriesVeiled
namespace Go.Proofs.YtekjhcfjpedbkaaGreatDoor
open Go.RowKit
set_option maxHeartbeats 1000000 in
set_option maxRecDepth 100000 in
theorem sparts_any (Q : Nat → Prop) (kd : Int) (a : Ck.T2) (A : Option Addr) (n c : Nat) (w : World) (hkd : 3 ≤ kd ∧ kd ≤ 5) (hL : Ck.Ly Q w a A n c) (hok : Ty.okT a.1 a.2 = true) :
    Calls Tryz.prog 76 #[.int .i8 kd, .agg #[.int .i8 a.1, .slice A n c]] w (Cg.AsPost Q w (St.ops.asO kd a) (St.ops.asl kd a) (St.ops.asr kd a)) := by
  by_cases hk : a.1 = kd
  · obtain ⟨k, kids⟩ := a
    dsimp only at hk hok ⊢
    subst hk
    obtain ⟨a1, a2, p1, f1, a3, a4, p2, f2, rfl, o1, o2⟩ := Ty.two_of hok hkd.1
    have hn := hL.is.n_eq
    simp only [Ty.len] at hn
    subst hn
    obtain ⟨bb, oo, B1, c1, B2, c2, rfl, hQ, x0, x1, x2, x3, L1, L2⟩ := hL.parts
    have e1 : St.ops.asO k (k, .node a1 a2 p1 f1 (.node a3 a4 p2 f2 .nil)) = true := by show (k == k) = true; simp
    have e2 : St.ops.asl k (k, .node a1 a2 p1 f1 (.node a3 a4 p2 f2 .nil)) = (p1, f1) := by show (if k = k then _ else _) = _; rw [if_pos rfl]; rfl
    have e3 : St.ops.asr k (k, .node a1 a2 p1 f1 (.node a3 a4 p2 f2 .nil)) = (p2, f2) := by show (if k = k then _ else _) = _; rw [if_pos rfl]; rfl
    rw [e1, e2, e3]
    have hB3 := below_n3 w (.cells #[.int .i8 k, .slice (some ⟨bb, oo, none⟩) 2 c] 25) (.cells #[.int .i8 0, .slice none 0 0] 25) (.cells #[.int .i8 0, .slice none 0 0] 25)
    obtain ⟨h0, h1, h2⟩ := heap_n3 w (.cells #[.int .i8 k, .slice (some ⟨bb, oo, none⟩) 2 c] 25) (.cells #[.int .i8 0, .slice none 0 0] 25) (.cells #[.int .i8 0, .slice none 0 0] 25)
    have HL1 := Lib.hid (((L1.weak (Q' := Ck.Cut Q w.heap.size (w.heap.size + 3)) (fun b hl hq => .inl ⟨hq, hl⟩)).later hB3))
    have HL2 := Lib.hid (((L2.weak (Q' := Ck.Cut Q w.heap.size (w.heap.size + 3)) (fun b hl hq => .inl ⟨hq, hl⟩)).later hB3))
    have x0 := keep_cell x0 hB3
    have x1 := keep_cell x1 hB3
    have x2 := keep_cell x2 hB3
    have x3 := keep_cell x3 hB3
    have HB3 := Lib.hid hB3
    clear e1 e2 e3 hok hL hQ L1 L2 hB3 o1 o2 hkd
    generalize Ty.len f1 = m1 at *
    generalize Ty.len f2 = m2 at *
    have ek : (k != k) = false := by simp
    go_enter Tryz.func76, Tryz.ntmps76
    go_upto_region 1 with fail
    generalize ((w.alloc (.cells #[.int .i8 k, .slice (some ⟨bb, oo, none⟩) 2 c] 25)).alloc (.cells #[.int .i8 0, .slice none 0 0] 25)).alloc (.cells #[.int .i8 0, .slice none 0 0] 25) = w1 at *
    obtain ⟨r0, r1, -, -, rl⟩ := own2 h0
    have H1 := Lib.hid h1
    have H2 := Lib.hid h2
    obtain ⟨y0, y1, y2, y3, yl⟩ := own2 h1
    obtain ⟨z0, z1, z2, z3, zl⟩ := own2 h2
    clear h0 h1 h2
    go_wp2_with fail
    go_region
    have Z4 := Lib.hid (set_two_ne (set_two H1.out (.int .i8 p1) (.slice B1 m1 c1)) (show w.heap.size + 1 + 1 ≠ w.heap.size + 1 by omega) (.int .i8 p2) (.slice B2 m2 c2))
    have Z5 := Lib.hid (set_two (set_two_ne H2.out (show w.heap.size + 1 ≠ w.heap.size + 1 + 1 by omega) (.int .i8 p1) (.slice B1 m1 c1)) (.int .i8 p2) (.slice B2 m2 c2))
    have HBF := Lib.hid (below_set2 (below_set2 HB3.out (show w.heap.size ≤ w.heap.size + 1 by omega) (.int .i8 p1) (.slice B1 m1 c1)) (show w.heap.size ≤ w.heap.size + 1 + 1 by omega) (.int .i8 p2) (.slice B2 m2 c2))
    have HJ1 := Lib.hid ((HL1.out.set2 (X := w.heap.size + 1) (fun b h => h.ne (by omega) (by omega)) (.int .i8 p1) (.slice B1 m1 c1)).set2 (X := w.heap.size + 1 + 1) (fun b h => h.ne (by omega) (by omega)) (.int .i8 p2) (.slice B2 m2 c2))
    have HJ2 := Lib.hid ((HL2.out.set2 (X := w.heap.size + 1) (fun b h => h.ne (by omega) (by omega)) (.int .i8 p1) (.slice B1 m1 c1)).set2 (X := w.heap.size + 1 + 1) (fun b h => h.ne (by omega) (by omega)) (.int .i8 p2) (.slice B2 m2 c2))
    generalize ((((w1.setCell ⟨w.heap.size + 1, 0, none⟩ (.int .i8 p1)).setCell ⟨w.heap.size + 1, 1, none⟩ (.slice B1 m1 c1)).setCell ⟨w.heap.size + 1 + 1, 0, none⟩ (.int .i8 p2)).setCell ⟨w.heap.size + 1 + 1, 1, none⟩ (.slice B2 m2 c2)) = w6 at *
    have K4 : Hid (w6.drew.heap[w.heap.size + 1]? = some (.cells #[.int .i8 p1, .slice B1 m1 c1] 25 (0, 0))) := Lib.hid Z4.out
    have K5 : Hid (w6.drew.heap[w.heap.size + 1 + 1]? = some (.cells #[.int .i8 p2, .slice B2 m2 c2] 25 (0, 0))) := Lib.hid Z5.out
    have HJ1 := Lib.hid (HJ1.out.later (Below.refl _ _).drew)
    have HJ2 := Lib.hid (HJ2.out.later (Below.refl _ _).drew)
    have HBF := Lib.hid (HBF.out.drew)
    clear Z4 Z5 H1 H2 HL1 HL2 HB3 r0 r1 rl x0 x1 x2 x3 y0 y1 y2 y3 yl z0 z1 z2 z3 zl
    generalize w6.drew = w7 at *
    obtain ⟨k0, k1, -, -, -⟩ := own2 K4.out
    obtain ⟨k2, k3, -, -, -⟩ := own2 K5.out
    go_wp2_with fail
    refine bodyPost_ret (v := .tuple #[.agg #[.int .i8 p1, .slice B1 m1 c1], .agg #[.int .i8 p2, .slice B2 m2 c2], .bool true]) (by simp [results, Tryz.results76, go_sem, k0, k1, k2, k3]) rfl ⟨B1, m1, c1, B2, m2, c2, rfl, HJ1.out.weak (fun b _ h => h.out (by omega)), HJ2.out.weak (fun b _ h => h.out (by omega)), HBF.out⟩
  · have e1 : St.ops.asO kd a = false := by show (a.1 == kd) = false; simpa using hk
    have e2 : St.ops.asl kd a = (0, .nil) := by show (if a.1 = kd then _ else _) = _; rw [if_neg hk]
    have e3 : St.ops.asr kd a = (0, .nil) := by show (if a.1 = kd then _ else _) = _; rw [if_neg hk]
    rw [e1, e2, e3]
    have hB3 := below_n3 w (.cells #[.int .i8 a.1, .slice A n c] 25) (.cells #[.int .i8 0, .slice none 0 0] 25) (.cells #[.int .i8 0, .slice none 0 0] 25)
    obtain ⟨h0, h1, h2⟩ := heap_n3 w (.cells #[.int .i8 a.1, .slice A n c] 25) (.cells #[.int .i8 0, .slice none 0 0] 25) (.cells #[.int .i8 0, .slice none 0 0] 25)
    have HB3 := Lib.hid hB3
    have ek : (a.1 != kd) = true := by simpa using hk
    clear e1 e2 e3 hok hL hB3 hkd hk
    go_enter Tryz.func76, Tryz.ntmps76
    go_upto_region 1 with fail
    generalize ((w.alloc (.cells #[.int .i8 a.1, .slice A n c] 25)).alloc (.cells #[.int .i8 0, .slice none 0 0] 25)).alloc (.cells #[.int .i8 0, .slice none 0 0] 25) = w1 at *
    obtain ⟨r0, r1, -, -, rl⟩ := own2 h0
    have H1 := Lib.hid h1
    have H2 := Lib.hid h2
    obtain ⟨y0, y1, y2, y3, yl⟩ := own2 h1
    obtain ⟨z0, z1, z2, z3, zl⟩ := own2 h2
    clear h0 h1 h2
    go_wp2_with fail
    go_region
    have Z4 := Lib.hid (set_two_ne (set_two H1.out (.int .i8 0) (.slice none 0 0)) (show w.heap.size + 1 + 1 ≠ w.heap.size + 1 by omega) (.int .i8 0) (.slice none 0 0))
    have Z5 := Lib.hid (set_two (set_two_ne H2.out (show w.heap.size + 1 ≠ w.heap.size + 1 + 1 by omega) (.int .i8 0) (.slice none 0 0)) (.int .i8 0) (.slice none 0 0))
    have HBF := Lib.hid (below_set2 (below_set2 HB3.out (show w.heap.size ≤ w.heap.size + 1 by omega) (.int .i8 0) (.slice none 0 0)) (show w.heap.size ≤ w.heap.size + 1 + 1 by omega) (.int .i8 0) (.slice none 0 0))
    generalize ((((w1.setCell ⟨w.heap.size + 1, 0, none⟩ (.int .i8 0)).setCell ⟨w.heap.size + 1, 1, none⟩ (.slice none 0 0)).setCell ⟨w.heap.size + 1 + 1, 0, none⟩ (.int .i8 0)).setCell ⟨w.heap.size + 1 + 1, 1, none⟩ (.slice none 0 0)) = w6 at *
    have K4 : Hid (w6.drew.heap[w.heap.size + 1]? = some (.cells #[.int .i8 0, .slice none 0 0] 25 (0, 0))) := Lib.hid Z4.out
    have K5 : Hid (w6.drew.heap[w.heap.size + 1 + 1]? = some (.cells #[.int .i8 0, .slice none 0 0] 25 (0, 0))) := Lib.hid Z5.out
    have HBF := Lib.hid (HBF.out.drew)
    clear Z4 Z5 H1 H2 HB3 r0 r1 rl y0 y1 y2 y3 yl z0 z1 z2 z3 zl
    generalize w6.drew = w7 at *
    obtain ⟨k0, k1, -, -, -⟩ := own2 K4.out
    obtain ⟨k2, k3, -, -, -⟩ := own2 K5.out
    go_wp2_with fail
    refine bodyPost_ret (v := .tuple #[.agg #[.int .i8 0, .slice none 0 0], .agg #[.int .i8 0, .slice none 0 0], .bool false]) (by simp [results, Tryz.results76, go_sem, k0, k1, k2, k3]) rfl ⟨none, 0, 0, none, 0, 0, rfl, Ck.Ly.zero _ _, Ck.Ly.zero _ _, HBF.out⟩

set_option maxHeartbeats 1000000 in
set_option maxRecDepth 100000 in
theorem smeet_any (Q : Nat → Prop) (a : Ck.T2) (A : Option Addr) (n c : Nat) (b : Ck.T2) (A' : Option Addr) (n' c' : Nat) (w : World) (hL : Ck.Ly Q w a A n c) :
    Calls Tryz.prog 77 #[.agg #[.int .i8 a.1, .slice A n c], .agg #[.int .i8 b.1, .slice A' n' c']] w (Ck.Gives Q w a) := by
  have hB3 := below_n3 w (.cells #[.int .i8 a.1, .slice A n c] 25) (.cells #[.int .i8 b.1, .slice A' n' c'] 25) (.cells #[.int .i8 a.1, .slice A n c] 25)
  have HL := Lib.hid ((hL.weak (Q' := Ck.Cut Q w.heap.size w.heap.size) (fun b hl hq => .inl ⟨hq, hl⟩)).later hB3)
  have HB3 := Lib.hid hB3
  clear hL hB3
  go_enter Tryz.func77, Tryz.ntmps77
  go_wp2_with fail
  refine bodyPost_ret (v := .agg #[.int .i8 a.1, .slice A n c]) (by simp [results, Tryz.results77, go_sem, *]) rfl ⟨A, n, c, rfl, HL.out, HB3.out⟩
set_option maxHeartbeats 1000000 in
set_option maxRecDepth 100000 in
theorem sstrict_any (f : FuncId) (cp : Array Value) (w : World) : Calls Tryz.prog 40 #[.func (Fn.func f) #[] cp] w fun e w' => e = .returned (.agg #[.func (Fn.func f) #[] cp, .func (Fn.func 30) #[] #[], .func (Fn.func 76) #[] #[], .func (Fn.func 77) #[] #[], .nilFunc]) ∧ Below w.heap.size w w' := by
  have HB := Lib.hid (below_n1 w (.cells #[.func (Fn.func f) #[] cp, .func (Fn.func 30) #[] #[], .func (Fn.func 76) #[] #[], .func (Fn.func 77) #[] #[], .nilFunc] 60))
  go_enter Tryz.func40, Tryz.ntmps40
  go_wp2_with fail
  refine bodyPost_ret (v := .agg #[.func (Fn.func f) #[] cp, .func (Fn.func 30) #[] #[], .func (Fn.func 76) #[] #[], .func (Fn.func 77) #[] #[], .nilFunc]) (by simp [results, Tryz.results40, go_sem, *]) rfl ⟨rfl, HB.out⟩
end Go.Proofs.YtekjhcfjpedbkaaGreatDoor
namespace Go.Proofs.YtekjhcfjpedbkaaGreatDoor
open Go.RowKit
theorem set_fifth {u : World} {X : Nat} {x0 x1 x2 x3 x4 : Value} {t : TypeId} (h : u.heap[X]? = some (.cells #[x0, x1, x2, x3, x4] t (0, 0))) (e : Value) : (u.setCell ⟨X, 4, none⟩ e).heap[X]? = some (.cells #[x0, x1, x2, x3, e] t (0, 0)) := by
  simp [World.setCell, Array.getElem?_modify, h]
theorem set_fifth_ne {u : World} {X Y : Nat} {o : Obj} (h : u.heap[Y]? = some o) (hne : X ≠ Y) (e : Value) : (u.setCell ⟨X, 4, none⟩ e).heap[Y]? = some o := by
  simp [World.setCell, Array.getElem?_modify, h, hne]
set_option maxHeartbeats 2000000 in
set_option maxRecDepth 100000 in
theorem kofcasts_any (w : World) : Calls Tryz.prog 46 #[] w fun e w' => ∃ gK, e = .returned (.agg #[.func (Fn.func 97) #[] #[.pointer (some ⟨gK, 0, none⟩)], .func (Fn.func 30) #[] #[], .func (Fn.func 76) #[] #[], .func (Fn.func 77) #[] #[], .func (Fn.func 29) #[] #[]]) ∧ w'.heap[gK]? = some (.cells #[.int .i8 16] 22 (0, 0)) ∧ w.heap.size ≤ gK ∧ Below w.heap.size w w' := by
  have HB := Lib.hid (below_n1 w (.cells #[.nilFunc, .nilFunc, .nilFunc, .nilFunc, .nilFunc] 60))
  have H0 := Lib.hid (heap_new w (.cells #[.nilFunc, .nilFunc, .nilFunc, .nilFunc, .nilFunc] 60))
  have CW := Lib.hid (fun W : World => ckwithout_any 16 W)
  have CS := Lib.hid (fun (g : Nat) (W : World) => sstrict_any 97 #[.pointer (some ⟨g, 0, none⟩)] W)
  go_enter Tryz.func46, Tryz.ntmps46
  go_upto_region 1 with fail
  generalize w.alloc (.cells #[.nilFunc, .nilFunc, .nilFunc, .nilFunc, .nilFunc] 60) = w1 at *
  go_wp2_with fail
  refine (CW.out _).mono ?_
  rintro e w2 ⟨g, rfl, hk, hg, hb⟩
  have HB2 := Lib.hid (HB.out.trans (hb.mono HB.out.size))
  have H2 := Lib.hid (heap_below hb (heap_lt H0.out) H0.out)
  have HG := Lib.hid hk
  have HL := Lib.hid (Nat.lt_of_lt_of_le (heap_lt H0.out) hg)
  clear hk hg hb
  go_wp2_with fail
  refine (CS.out g _).mono ?_
  rintro e w3 ⟨rfl, hb⟩
  have hb4 := below_n1 w3 (.cells #[.func (Fn.func 97) #[] #[.pointer (some ⟨g, 0, none⟩)], .func (Fn.func 30) #[] #[], .func (Fn.func 76) #[] #[], .func (Fn.func 77) #[] #[], .nilFunc] 60)
  have H4 := Lib.hid (heap_new w3 (.cells #[.func (Fn.func 97) #[] #[.pointer (some ⟨g, 0, none⟩)], .func (Fn.func 30) #[] #[], .func (Fn.func 76) #[] #[], .func (Fn.func 77) #[] #[], .nilFunc] 60))
  have HB4 := Lib.hid (HB2.out.trans ((hb.trans (hb4.mono hb.size)).mono HB2.out.size))
  have H24 := Lib.hid (heap_below (hb.trans (hb4.mono hb.size)) (heap_lt H2.out) H2.out)
  have HG4 := Lib.hid (heap_below (hb.trans (hb4.mono hb.size)) (heap_lt HG.out) HG.out)
  have HL3 := Lib.hid (Nat.lt_of_lt_of_le (heap_lt HG.out) hb.size)
  have HL4 := Lib.hid (Nat.lt_of_lt_of_le (heap_lt H2.out) hb.size)
  clear hb hb4
  go_upto_region 2 with fail
  generalize w3.alloc (.cells #[.func (Fn.func 97) #[] #[.pointer (some ⟨g, 0, none⟩)], .func (Fn.func 30) #[] #[], .func (Fn.func 76) #[] #[], .func (Fn.func 77) #[] #[], .nilFunc] 60) = w4 at *
  generalize w3.heap.size = S3 at *
  obtain ⟨r0, r1, r2, r3, r4, z0, z1, z2, z3, z4, rl⟩ := own5 H4.out
  obtain ⟨s0, s1, s2, s3, s4, y0, y1, y2, y3, y4, sl⟩ := own5 H24.out
  have H5 := Lib.hid (set_fifth H4.out (.func (Fn.func 29) #[] #[]))
  have H25 := Lib.hid (set_fifth_ne H24.out (show S3 ≠ w.heap.size by have := HL4.out; omega) (.func (Fn.func 29) #[] #[]))
  have HG5 := Lib.hid (set_fifth_ne HG4.out (show S3 ≠ g by have := HL3.out; omega) (.func (Fn.func 29) #[] #[]))
  have HB5 := Lib.hid (HB4.out.setCell (p := ⟨S3, 4, none⟩) (show w.heap.size ≤ S3 by have := HL4.out; omega) (.func (Fn.func 29) #[] #[]))
  go_upto_region 3 with fail
  generalize w4.setCell ⟨S3, 4, none⟩ (.func (Fn.func 29) #[] #[]) = w5 at *
  clear r0 r1 r2 r3 r4 z0 z1 z2 z3 z4 rl s0 s1 s2 s3 s4 y0 y1 y2 y3 y4 sl
  obtain ⟨r0, r1, r2, r3, r4, z0, z1, z2, z3, z4, rl⟩ := own5 H5.out
  obtain ⟨s0, s1, s2, s3, s4, y0, y1, y2, y3, y4, sl⟩ := own5 H25.out
  go_wp2_with fail
  have k1 := set_five H25.out (.func (Fn.func 97) #[] #[.pointer (some ⟨g, 0, none⟩)]) (.func (Fn.func 30) #[] #[]) (.func (Fn.func 76) #[] #[]) (.func (Fn.func 77) #[] #[]) (.func (Fn.func 29) #[] #[])
  obtain ⟨t0, t1, t2, t3, t4, -⟩ := own5 k1
  refine bodyPost_ret (v := .agg #[.func (Fn.func 97) #[] #[.pointer (some ⟨g, 0, none⟩)], .func (Fn.func 30) #[] #[], .func (Fn.func 76) #[] #[], .func (Fn.func 77) #[] #[], .func (Fn.func 29) #[] #[]]) (by simp [results, Tryz.results46, go_sem, t0, t1, t2, t3, t4]) rfl ⟨g, rfl, ?_, ?_, below_set5 HB5.out (Nat.le_refl _) _ _ _ _ _⟩
  · exact set_five_ne HG5.out (show w.heap.size ≠ g by have := HL.out; omega) _ _ _ _ _
  · have := HL.out; omega
/-- the kernel's rules -/
def kernRv (gK : Nat) : Cg.Rv where
  fr := 97
  cpt := #[.pointer (some ⟨gK, 0, none⟩)]
  vg := .func (Fn.func 29) #[] #[]
  fa := 30
  fm := 76
  ft := 77
  D := Kn.ops
  cfr := fun args W => by simp [go_sem]
  cfa := fun args W => by simp [go_sem]
  cfm := fun args W => by simp [go_sem]
  cft := fun args W => by simp [go_sem]
  agC := fun k kids A n c k' kids' A' n' c' w h1 h2 hS => same_any k kids A n c k' kids' A' n' c' w h1 h2 hS
  asC := fun Q kd a A n c w hkd hL hok _ => sparts_any Q kd a A n c w hkd hL hok
  mtC := fun Q a A n c b A' n' c' w h1 _ _ _ => smeet_any Q a A n c b A' n' c' w h1
  gC := fun _ => ⟨29, rfl, (fun args W => by simp [go_sem]), fun k kids A n c k' kids' A' n' c' w h1 h2 hS => agree_any k kids A n c k' kids' A' n' c' w h1 h2 hS⟩
namespace Kn
/-- what kernel.Type leaves -/
def TyPost (w : World) (r : Ck.R) (e : Ending) (w' : World) : Prop := match r with
  | .ok a => ∃ G m c, e = .returned (.tuple #[.agg #[.int .i8 a.1, .slice G m c], .int .i64 0]) ∧ Ck.Ly (fun b => w.heap.size ≤ b) w' a G m c ∧ Below w.heap.size w w'
  | .bad E _ _ => e = .returned (.tuple #[.agg #[.int .i8 0, .slice none 0 0], .int .i64 (num E)]) ∧ Below w.heap.size w w'
end Kn
end Go.Proofs.YtekjhcfjpedbkaaGreatDoor
