import Derived.Test.YtglgjaomneljbacGreatDoorM23
namespace Go.Proofs.YtglgjaomneljbacGreatDoor
open Go.RowKit
theorem Ty.Is.zEW {w : World} {k : Int} {a b c d a' b' c' d' : Nat} {p1 p2 : Int} {f1 f2 : Fo} {A : Option Addr} {n m : Nat} (h : Ty.Is w k (.node a b p1 f1 (.node c d p2 f2 .nil)) A n m) : Ty.Is w k (.node a' b' p1 f1 (.node c' d' p2 f2 .nil)) A n m := ⟨h.lies, h.n_eq, h.n_le, h.c_le, h.lo, h.hi⟩
theorem Ty.Is.zEX {P : Nat → Prop} {w : World} {k : Int} {a b c d : Nat} {p1 p2 : Int} {f1 f2 : Fo} {A : Option Addr} {n m : Nat} (h : Ck.Ly P w (Ck.mk2 k (p1, f1) (p2, f2)) A n m) : Lone P w k (.node a b p1 f1 (.node c d p2 f2 .nil)) A n m := fun u hu => Ty.Is.zEW (h u hu)
theorem Ty.zCn {k : Int} {kids : Fo} (h : Ty.okT k kids = true) (h3 : ¬ 3 ≤ k) : kids = .nil := by
 unfold Ty.okT Ty.okK at h
 cases kids with
 | nil => rfl
 | node _ _ _ _ r => simp [Ty.len] at h; omega
set_option maxHeartbeats 8000000 in
set_option maxRecDepth 100000 in
theorem wB (K : Nat) : ∀ (k : Int) (kids : Fo) (A : Option Addr) (n c : Nat) (w : World), Ty.nodes kids < K → Ty.Is w k kids A n c → Ty.okT k kids = true →
  Calls Tryz.prog 24 #[.agg #[.int .i8 k, .slice A n c]] w (CopyL w k kids) := by
 induction K with
 | zero => intro _ _ _ _ _ _ hK; omega
 | succ K ih =>
  intro k kids A n c w hK hIs hok
  have hlo := hIs.lo
  have hhi := hIs.hi
  by_cases h3 : 3 ≤ k
  case neg =>
   have hnil : kids = .nil := Ty.zCn hok h3
   subst hnil
   have hn := hIs.n_eq
   simp only [Ty.len] at hn
   subst hn
   have HB2 := k0_ (zb w (.cells #[.int .i8 k, .slice A 0 c] 25) (.cells #[.int .i8 0, .slice none 0 0] 25))
   obtain ⟨h0, h1⟩ := zt w (.cells #[.int .i8 k, .slice A 0 c] 25) (.cells #[.int .i8 0, .slice none 0 0] 25)
   have H1 := k0_ h1
   have CO := k0_ (fun (W : World) => zn k none 0 0 W)
   clear ih hK hIs hok h3 h0 h1
   go_enter Tryz.func24, Tryz.ntmps24
   go_wp2_with fail
   refine (CO.out _).mono ?_
   rintro e w2 ⟨rfl, hb2⟩
   have HB3 := kt_ HB2 hb2
   have z2 := zB hb2 (zC H1.out) H1.out
   obtain ⟨x0, x1, f0, f1, xl⟩ := zH z2
   clear hb2
   go_wp2_with fail
   have z3 := zL z2 (.int .i8 k) (.slice none 0 0)
   obtain ⟨k0, k1, -, -, -⟩ := zH z3
   exact bodyPost_ret (v := .agg #[.int .i8 k, .slice none 0 0]) (by simp [results, Tryz.results24, go_sem, k0, k1]) rfl ⟨none, 0, 0, rfl, (fun u _ => ⟨trivial, rfl, Nat.le_refl _, Nat.zero_le _, hlo, hhi⟩), zG HB3.out (by omega) _ _⟩
  obtain ⟨a1, a2, p1, f1, a3, a4, p2, f2, rfl, o1, o2⟩ := Ty.qg hok h3
  have hn := hIs.n_eq
  simp only [Ty.len] at hn
  subst hn
  simp only [Ty.nodes] at hK
  have hB2 := zb w (.cells #[.int .i8 k, .slice A 2 c] 25) (.cells #[.int .i8 0, .slice none 0 0] 25)
  have hL := Ty.vC (hIs.below hB2).lies
  obtain ⟨bb, oo, B1, c1, B2, c2, rfl, x0, x1, x2, x3, i1, i2⟩ := hL
  obtain ⟨h0, h1⟩ := zt w (.cells #[.int .i8 k, .slice (some ⟨bb, oo, none⟩) 2 c] 25) (.cells #[.int .i8 0, .slice none 0 0] 25)
  have hz : ((w.alloc (.cells #[.int .i8 k, .slice (some ⟨bb, oo, none⟩) 2 c] 25)).alloc (.cells #[.int .i8 0, .slice none 0 0] 25)).heap.size = w.heap.size + 2 := by simp
  obtain ⟨w1, hw1⟩ : ∃ w1, w1 = (w.alloc (.cells #[.int .i8 k, .slice (some ⟨bb, oo, none⟩) 2 c] 25)).alloc (.cells #[.int .i8 0, .slice none 0 0] 25) := ⟨_, rfl⟩
  rw [← hw1] at hB2 h0 h1 hz x0 x1 x2 x3 i1 i2
  have HW1 := k0_ hw1
  have HZ := k0_ hz
  have H2 := k0_ h1
  have hfrom := k0_ (fun (W : World) (hb : Below w1.heap.size w1 W) => hB2.trans (hb.mono hB2.size))
  have CC1 := k0_ (fun (W : World) (hb : Below w1.heap.size w1 W) => ih p1 f1 B1 _ c1 W (by omega) (i1.below hb) o1)
  have CC2 := k0_ (fun (W : World) (hb : Below w1.heap.size w1 W) => ih p2 f2 B2 _ c2 W (by omega) (i2.below hb) o2)
  have HK := k0_ (fun (W : World) (hb : Below w1.heap.size w1 W) => (show W.cell? ⟨w.heap.size, 0, none⟩ = some (.int .i8 k) ∧ W.cell? ⟨w.heap.size, 1, none⟩ = some (.slice (some ⟨bb, oo, none⟩) 2 c) ∧ W.cell? ⟨bb, oo, none⟩ = some (.int .i8 p1) ∧ W.cell? ⟨bb, oo + 1, none⟩ = some (.slice B1 (Ty.len f1) c1) ∧ W.cell? ⟨bb, oo + 2, none⟩ = some (.int .i8 p2) ∧ W.cell? ⟨bb, oo + 3, none⟩ = some (.slice B2 (Ty.len f2) c2) from by
   obtain ⟨r0, r1, -, -, -⟩ := zH (zB hb (zC h0) h0)
   exact ⟨r0, r1, zA x0 hb, zA x1 hb, zA x2 hb, zA x3 hb⟩))
  have HKR := k0_ (And.intro hlo hhi)
  have hk0 : ((2 : Nat) : Int) = 2 := rfl
  clear ih hK hIs hok o1 o2 hB2 h0 h1 hz x0 x1 x2 x3 i1 i2 hlo hhi h3
  generalize Ty.len f1 = m1 at *
  generalize Ty.len f2 = m2 at *
  go_enter Tryz.func24, Tryz.ntmps24
  go_upto_region 1 with fail
  rw [← HW1.out]
  clear hw1 HW1
  obtain ⟨r0, r1, r2, r3, r4, r5⟩ := HK.out w1 (Below.refl _ _)
  go_upto_region 3 with fail
  clear r0 r1 r2 r3 r4 r5
  refine zI 24 rfl [10, 11, 12, 13, 14, 15, 16, 17, 18, 19, 20, 21, 22, 23] (by kernel_rfl) (by kernel_rfl) (by kernel_rfl) (fun listed a' w' => a'.defers = [] ∧ a'.tmps.size = 24 ∧ (a'.eval (.tmp 1) = .pointer (some ⟨w.heap.size, 0, none⟩) ∧ a'.eval (.tmp 2) = .pointer (some ⟨w.heap.size + 1, 0, none⟩)) ∧ ∃ Ga ma ca Gb mb cb Y, (listed[0]? = some true → (a'.eval (.tmp 10) = .pointer (some ⟨w.heap.size, 0, none⟩))) ∧ (listed[1]? = some true → (a'.eval (.tmp 11) = .int .i8 k) ∧ (listed[0]? = some true)) ∧ (listed[2]? = some true → (a'.eval (.tmp 12) = .pointer (some ⟨w.heap.size, 1, none⟩))) ∧ (listed[3]? = some true → (a'.eval (.tmp 13) = .slice (some ⟨bb, oo, none⟩) 2 c) ∧ (listed[2]? = some true)) ∧ (listed[4]? = some true → (a'.eval (.tmp 14) = .pointer (some ⟨bb, oo, none⟩)) ∧ (listed[2]? = some true) ∧ (listed[3]? = some true)) ∧ (listed[5]? = some true → (a'.eval (.tmp 15) = .agg #[.int .i8 p1, .slice B1 m1 c1]) ∧ (listed[2]? = some true) ∧ (listed[3]? = some true) ∧ (listed[4]? = some true)) ∧ (listed[6]? = some true → (a'.eval (.tmp 16) = .agg #[.int .i8 p1, .slice Ga ma ca]) ∧ (listed[2]? = some true) ∧ (listed[3]? = some true) ∧ (listed[4]? = some true) ∧ (listed[5]? = some true) ∧ ((listed[12]? = some false → Ck.Ly (fun b => w1.heap.size ≤ b) w' (p1, f1) Ga ma ca))) ∧ (listed[7]? = some true → (a'.eval (.tmp 17) = .pointer (some ⟨w.heap.size, 1, none⟩))) ∧ (listed[8]? = some true → (a'.eval (.tmp 18) = .slice (some ⟨bb, oo, none⟩) 2 c) ∧ (listed[7]? = some true)) ∧ (listed[9]? = some true → (a'.eval (.tmp 19) = .pointer (some ⟨bb, oo + 2, none⟩)) ∧ (listed[7]? = some true) ∧ (listed[8]? = some true)) ∧ (listed[10]? = some true → (a'.eval (.tmp 20) = .agg #[.int .i8 p2, .slice B2 m2 c2]) ∧ (listed[7]? = some true) ∧ (listed[8]? = some true) ∧ (listed[9]? = some true)) ∧ (listed[11]? = some true → (a'.eval (.tmp 21) = .agg #[.int .i8 p2, .slice Gb mb cb]) ∧ (listed[7]? = some true) ∧ (listed[8]? = some true) ∧ (listed[9]? = some true) ∧ (listed[10]? = some true) ∧ ((listed[12]? = some false → Ck.Ly (fun b => w1.heap.size ≤ b) w' (p2, f2) Gb mb cb))) ∧ (listed[12]? = some true → (a'.eval (.tmp 22) = .slice (some ⟨Y, 0, none⟩) 2 2) ∧ (listed[2]? = some true) ∧ (listed[3]? = some true) ∧ (listed[4]? = some true) ∧ (listed[5]? = some true) ∧ (listed[6]? = some true) ∧ (listed[7]? = some true) ∧ (listed[8]? = some true) ∧ (listed[9]? = some true) ∧ (listed[10]? = some true) ∧ (listed[11]? = some true) ∧ (Ck.Ly (fun b => w1.heap.size ≤ b) w' (Ck.mk2 k (p1, f1) (p2, f2)) (some ⟨Y, 0, none⟩) 2 2)) ∧ (listed[13]? = some true → (a'.eval (.tmp 23) = .agg #[.int .i8 k, .slice (some ⟨Y, 0, none⟩) 2 2]) ∧ (listed[0]? = some true) ∧ (listed[1]? = some true) ∧ (listed[2]? = some true) ∧ (listed[3]? = some true) ∧ (listed[4]? = some true) ∧ (listed[5]? = some true) ∧ (listed[6]? = some true) ∧ (listed[7]? = some true) ∧ (listed[8]? = some true) ∧ (listed[9]? = some true) ∧ (listed[10]? = some true) ∧ (listed[11]? = some true) ∧ (listed[12]? = some true)) ∧ (listed[14]? = some true → (listed[0]? = some true) ∧ (listed[1]? = some true) ∧ (listed[2]? = some true) ∧ (listed[3]? = some true) ∧ (listed[4]? = some true) ∧ (listed[5]? = some true) ∧ (listed[6]? = some true) ∧ (listed[7]? = some true) ∧ (listed[8]? = some true) ∧ (listed[9]? = some true) ∧ (listed[10]? = some true) ∧ (listed[11]? = some true) ∧ (listed[12]? = some true) ∧ (listed[13]? = some true) ∧ (w'.heap[w.heap.size + 1]? = some (.cells #[.int .i8 k, .slice (some ⟨Y, 0, none⟩) 2 2] 25 (0, 0))) ∧ (Below w.heap.size w w')) ∧ (listed[14]? = some false → Below w1.heap.size w1 w')) (fun _ _ _ h => h.1) ?_ ?_ ?_
  ·have hz := HZ.out
   refine ⟨rfl, rfl, ⟨rfl, rfl⟩, none, 0, 0, none, 0, 0, 0, FH, FH, FH, FH, FH, FH, FH, FH, FH, FH, FH, FH, FH, FH, FH, (fun _ => (Below.refl _ _).drew)⟩
  ·rintro listed a' w' i o ⟨hdf, hsz, hx, Ga, ma, ca, Gb, mb, cb, Y, y0, y1, y2, y3, y4, y5, y6, y7, y8, y9, y10, y11, y12, y13, y14, hbw⟩ hz hsz0 ho hi hp
   have hi13 : i < 15 := by
    exact zD3
   rcases (by omega : i = 0 ∨ i = 1 ∨ i = 2 ∨ i = 3 ∨ i = 4 ∨ i = 5 ∨ i = 6 ∨ i = 7 ∨ i = 8 ∨ i = 9 ∨ i = 10 ∨ i = 11 ∨ i = 12 ∨ i = 13 ∨ i = 14) with rfl | rfl | rfl | rfl | rfl | rfl | rfl | rfl | rfl | rfl | rfl | rfl | rfl | rfl | rfl
   ·obtain rfl := SI ho
    exact V_ ho 10 ⟨pd hdf, ps hsz, KX hx, Ga, ma, ca, Gb, mb, cb, Y, (fun _ => pS hsz), KN y1, K1 y2, K1 y3, K1 y4, K1 y5, (kF y6 (fun q => ⟨pn q.1, z8 q.2.1, z8 q.2.2.1, z8 q.2.2.2.1, z8 q.2.2.2.2.1, (kU q.2.2.2.2.2 (fun q => q))⟩)), K1 y7, K1 y8, K1 y9, K1 y10, (kF y11 (fun q => ⟨pn q.1, z8 q.2.1, z8 q.2.2.1, z8 q.2.2.2.1, z8 q.2.2.2.2.1, (kU q.2.2.2.2.2 (fun q => q))⟩)), K1 y12, KN y13, KN y14, (kU hbw id)⟩
   ·obtain rfl := SI ho
    have v0 := hpv hp 0 (by simp)
    have ww0 := (y0 v0)
    have hbu := hbw
    have hbw := hbw (nf (by rw [hz]; decide) (fun q => (y14 q).2.1) hi)
    obtain ⟨e0, e1, e2, e3, e4, e5⟩ := HK.out w' hbw
    exact V_ ho 11 ⟨pd hdf, ps hsz, KX hx, Ga, ma, ca, Gb, mb, cb, Y, K1 y0, (fun _ => ⟨pS hsz, (z8 v0)⟩), K1 y2, K1 y3, K1 y4, K1 y5, (kF y6 (fun q => ⟨pn q.1, z8 q.2.1, z8 q.2.2.1, z8 q.2.2.2.1, z8 q.2.2.2.2.1, (kU q.2.2.2.2.2 (fun q => q))⟩)), K1 y7, K1 y8, K1 y9, K1 y10, (kF y11 (fun q => ⟨pn q.1, z8 q.2.1, z8 q.2.2.1, z8 q.2.2.2.1, z8 q.2.2.2.2.1, (kU q.2.2.2.2.2 (fun q => q))⟩)), K1 y12, KN y13, KN y14, (kU hbu id)⟩
   ·obtain rfl := SI ho
    exact V_ ho 12 ⟨pd hdf, ps hsz, KX hx, Ga, ma, ca, Gb, mb, cb, Y, K1 y0, K1 y1, (fun _ => pS hsz), KN y3, KN y4, KN y5, KN y6, K1 y7, K1 y8, K1 y9, K1 y10, (kF y11 (fun q => ⟨pn q.1, z8 q.2.1, z8 q.2.2.1, z8 q.2.2.2.1, z8 q.2.2.2.2.1, (kU q.2.2.2.2.2 (fun q => q))⟩)), KN y12, KN y13, KN y14, (kU hbw id)⟩
   ·obtain rfl := SI ho
    have v2 := hpv hp 2 (by simp)
    have ww2 := (y2 v2)
    have hbu := hbw
    have hbw := hbw (nf (by rw [hz]; decide) (fun q => (y14 q).2.2.2.1) hi)
    obtain ⟨e0, e1, e2, e3, e4, e5⟩ := HK.out w' hbw
    exact V_ ho 13 ⟨pd hdf, ps hsz, KX hx, Ga, ma, ca, Gb, mb, cb, Y, K1 y0, K1 y1, K1 y2, (fun _ => ⟨pS hsz, (z8 v2)⟩), KN y4, KN y5, KN y6, K1 y7, K1 y8, K1 y9, K1 y10, (kF y11 (fun q => ⟨pn q.1, z8 q.2.1, z8 q.2.2.1, z8 q.2.2.2.1, z8 q.2.2.2.2.1, (kU q.2.2.2.2.2 (fun q => q))⟩)), KN y12, KN y13, KN y14, (kU hbu id)⟩
   ·obtain rfl := SI ho
    have v3 := hpv hp 3 (by simp)
    have ww3 := (y3 v3).1
    exact V_ ho 14 ⟨pd hdf, ps hsz, KX hx, Ga, ma, ca, Gb, mb, cb, Y, K1 y0, K1 y1, K1 y2, K1 y3, (fun _ => ⟨pS hsz, (z8 ((y3 v3).2)), (z8 v3)⟩), KN y5, KN y6, K1 y7, K1 y8, K1 y9, K1 y10, (kF y11 (fun q => ⟨pn q.1, z8 q.2.1, z8 q.2.2.1, z8 q.2.2.2.1, z8 q.2.2.2.2.1, (kU q.2.2.2.2.2 (fun q => q))⟩)), KN y12, KN y13, KN y14, (kU hbw id)⟩
   ·obtain rfl := SI ho
    have v4 := hpv hp 4 (by simp)
    have ww4 := (y4 v4).1
    have hbu := hbw
    have hbw := hbw (nf (by rw [hz]; decide) (fun q => (y14 q).2.2.2.2.2.1) hi)
    obtain ⟨e0, e1, e2, e3, e4, e5⟩ := HK.out w' hbw
    exact V_ ho 15 ⟨pd hdf, ps hsz, KX hx, Ga, ma, ca, Gb, mb, cb, Y, K1 y0, K1 y1, K1 y2, K1 y3, K1 y4, (fun _ => ⟨pS hsz, (z8 ((y4 v4).2.1)), (z8 ((y4 v4).2.2)), (z8 v4)⟩), KN y6, K1 y7, K1 y8, K1 y9, K1 y10, (kF y11 (fun q => ⟨pn q.1, z8 q.2.1, z8 q.2.2.1, z8 q.2.2.2.1, z8 q.2.2.2.2.1, (kU q.2.2.2.2.2 (fun q => q))⟩)), KN y12, KN y13, KN y14, (kU hbu id)⟩
   ·obtain rfl := SI ho
    have v5 := hpv hp 5 (by simp)
    have ww5 := (y5 v5).1
    have hbw := hbw (nf (by rw [hz]; decide) (fun q => (y14 q).2.2.2.2.2.2.1) hi)
    refine C_ ho 16 (CC1.out w' hbw) fun e u hg => ?_
    ·obtain ⟨Ga', ma', ca', rfl, hl, hb⟩ := hg
     refine ⟨.agg #[.int .i8 p1, .slice Ga' ma' ca'], rfl, ?_⟩
     have hbs := hbw.size
     have hzz := HZ.out
     have hbs2 := hb.size
     exact ⟨pd hdf, ps hsz, KX hx, Ga', ma', ca', Gb, mb, cb, Y, K1 y0, K1 y1, K1 y2, K1 y3, K1 y4, K1 y5, (fun _ => ⟨pS hsz, (z8 ((y5 v5).2.1)), (z8 ((y5 v5).2.2.1)), (z8 ((y5 v5).2.2.2)), (z8 v5), (fun _ => Ck.Ly.weak (a := (p1, f1)) hl (fun b _ hq => Nat.le_trans hbw.size hq))⟩), K1 y7, K1 y8, K1 y9, K1 y10, (kF y11 (fun q => ⟨pn q.1, z8 q.2.1, z8 q.2.2.1, z8 q.2.2.2.1, z8 q.2.2.2.2.1, (kU q.2.2.2.2.2 (fun q => (Ck.Ly.later q hb)))⟩)), KN y12, KN y13, KN y14, (fun _ => hbw.trans (hb.mono hbw.size))⟩
   ·obtain rfl := SI ho
    exact V_ ho 17 ⟨pd hdf, ps hsz, KX hx, Ga, ma, ca, Gb, mb, cb, Y, K1 y0, K1 y1, K1 y2, K1 y3, K1 y4, K1 y5, (kF y6 (fun q => ⟨pn q.1, z8 q.2.1, z8 q.2.2.1, z8 q.2.2.2.1, z8 q.2.2.2.2.1, (kU q.2.2.2.2.2 (fun q => q))⟩)), (fun _ => pS hsz), KN y8, KN y9, KN y10, KN y11, KN y12, KN y13, KN y14, (kU hbw id)⟩
   ·obtain rfl := SI ho
    have v7 := hpv hp 7 (by simp)
    have ww7 := (y7 v7)
    have hbu := hbw
    have hbw := hbw (nf (by rw [hz]; decide) (fun q => (y14 q).2.2.2.2.2.2.2.2.1) hi)
    obtain ⟨e0, e1, e2, e3, e4, e5⟩ := HK.out w' hbw
    exact V_ ho 18 ⟨pd hdf, ps hsz, KX hx, Ga, ma, ca, Gb, mb, cb, Y, K1 y0, K1 y1, K1 y2, K1 y3, K1 y4, K1 y5, (kF y6 (fun q => ⟨pn q.1, z8 q.2.1, z8 q.2.2.1, z8 q.2.2.2.1, z8 q.2.2.2.2.1, (kU q.2.2.2.2.2 (fun q => q))⟩)), K1 y7, (fun _ => ⟨pS hsz, (z8 v7)⟩), KN y9, KN y10, KN y11, KN y12, KN y13, KN y14, (kU hbu id)⟩
   ·obtain rfl := SI ho
    have v8 := hpv hp 8 (by simp)
    have ww8 := (y8 v8).1
    exact V_ ho 19 ⟨pd hdf, ps hsz, KX hx, Ga, ma, ca, Gb, mb, cb, Y, K1 y0, K1 y1, K1 y2, K1 y3, K1 y4, K1 y5, (kF y6 (fun q => ⟨pn q.1, z8 q.2.1, z8 q.2.2.1, z8 q.2.2.2.1, z8 q.2.2.2.2.1, (kU q.2.2.2.2.2 (fun q => q))⟩)), K1 y7, K1 y8, (fun _ => ⟨pS hsz, (z8 ((y8 v8).2)), (z8 v8)⟩), KN y10, KN y11, KN y12, KN y13, KN y14, (kU hbw id)⟩
   ·obtain rfl := SI ho
    have v9 := hpv hp 9 (by simp)
    have ww9 := (y9 v9).1
    have hbu := hbw
    have hbw := hbw (nf (by rw [hz]; decide) (fun q => (y14 q).2.2.2.2.2.2.2.2.2.2.1) hi)
    obtain ⟨e0, e1, e2, e3, e4, e5⟩ := HK.out w' hbw
    exact V_ ho 20 ⟨pd hdf, ps hsz, KX hx, Ga, ma, ca, Gb, mb, cb, Y, K1 y0, K1 y1, K1 y2, K1 y3, K1 y4, K1 y5, (kF y6 (fun q => ⟨pn q.1, z8 q.2.1, z8 q.2.2.1, z8 q.2.2.2.1, z8 q.2.2.2.2.1, (kU q.2.2.2.2.2 (fun q => q))⟩)), K1 y7, K1 y8, K1 y9, (fun _ => ⟨pS hsz, (z8 ((y9 v9).2.1)), (z8 ((y9 v9).2.2)), (z8 v9)⟩), KN y11, KN y12, KN y13, KN y14, (kU hbu id)⟩
   ·obtain rfl := SI ho
    have v10 := hpv hp 10 (by simp)
    have ww10 := (y10 v10).1
    have hbw := hbw (nf (by rw [hz]; decide) (fun q => (y14 q).2.2.2.2.2.2.2.2.2.2.2.1) hi)
    refine C_ ho 21 (CC2.out w' hbw) fun e u hg => ?_
    ·obtain ⟨Gb', mb', cb', rfl, hl, hb⟩ := hg
     refine ⟨.agg #[.int .i8 p2, .slice Gb' mb' cb'], rfl, ?_⟩
     have hbs := hbw.size
     have hzz := HZ.out
     have hbs2 := hb.size
     exact ⟨pd hdf, ps hsz, KX hx, Ga, ma, ca, Gb', mb', cb', Y, K1 y0, K1 y1, K1 y2, K1 y3, K1 y4, K1 y5, (kF y6 (fun q => ⟨pn q.1, z8 q.2.1, z8 q.2.2.1, z8 q.2.2.2.1, z8 q.2.2.2.2.1, (kU q.2.2.2.2.2 (fun q => (Ck.Ly.later q hb)))⟩)), K1 y7, K1 y8, K1 y9, K1 y10, (fun _ => ⟨pS hsz, (z8 ((y10 v10).2.1)), (z8 ((y10 v10).2.2.1)), (z8 ((y10 v10).2.2.2)), (z8 v10), (fun _ => Ck.Ly.weak (a := (p2, f2)) hl (fun b _ hq => Nat.le_trans hbw.size hq))⟩), KN y12, KN y13, KN y14, (fun _ => hbw.trans (hb.mono hbw.size))⟩
   ·obtain rfl := SI ho
    refine zP ho rfl (zS 22 rfl (v := .slice (some ⟨w'.heap.size, 0, none⟩) 2 2) (w2 := w'.alloc (.cells #[.int .i8 p1, .slice Ga ma ca, .int .i8 p2, .slice Gb mb cb] 25)) ?_ ?_)
    ·have v6 := hpv hp 6 (by simp)
     have ww6 := (y6 v6).1
     have v11 := hpv hp 11 (by simp)
     have ww11 := (y11 v11).1
     exact EV
    ·have v6 := hpv hp 6 (by simp)
     have v11 := hpv hp 11 (by simp)
     have hbw := hbw (nf (by rw [hz]; decide) (fun q => (y14 q).2.2.2.2.2.2.2.2.2.2.2.2.1) hi)
     have hbs := hbw.size
     have hzz := HZ.out
     have hsa : (w'.alloc (.cells #[.int .i8 p1, .slice Ga ma ca, .int .i8 p2, .slice Gb mb cb] 25)).heap.size = w'.heap.size + 1 := by simp
     have hba : Below w'.heap.size w' (w'.alloc (.cells #[.int .i8 p1, .slice Ga ma ca, .int .i8 p2, .slice Gb mb cb] 25)) := (Below.refl _ _).alloc (Nat.le_refl _) _
     have hnew := zD w' (.cells #[.int .i8 p1, .slice Ga ma ca, .int .i8 p2, .slice Gb mb cb] 25)
     exact ⟨pd hdf, ps hsz, KX hx, Ga, ma, ca, Gb, mb, cb, w'.heap.size, K1 y0, K1 y1, K1 y2, K1 y3, K1 y4, K1 y5, (kF y6 (fun q => ⟨pn q.1, z8 q.2.1, z8 q.2.2.1, z8 q.2.2.2.1, z8 q.2.2.2.2.1, (fun qu => (zJ qu).elim)⟩)), K1 y7, K1 y8, K1 y9, K1 y10, (kF y11 (fun q => ⟨pn q.1, z8 q.2.1, z8 q.2.2.1, z8 q.2.2.2.1, z8 q.2.2.2.2.1, (fun qu => (zJ qu).elim)⟩)), (fun _ => ⟨pS hsz, (z8 ((y6 v6).2.1)), (z8 ((y6 v6).2.2.1)), (z8 ((y6 v6).2.2.2.1)), (z8 ((y6 v6).2.2.2.2.1)), (z8 v6), (z8 ((y11 v11).2.1)), (z8 ((y11 v11).2.2.1)), (z8 ((y11 v11).2.2.2.1)), (z8 ((y11 v11).2.2.2.2.1)), (z8 v11), Ck.Ly.two (a := (p1, f1)) (b := (p2, f2)) hnew (show w1.heap.size ≤ w'.heap.size from hbs) ((((y6 v6).2.2.2.2.2) hi).later hba) ((((y11 v11).2.2.2.2.2) hi).later hba) k HKR.out⟩), KN y13, KN y14, (fun _ => hbw.alloc hbw.size _)⟩
   ·obtain rfl := SI ho
    have v1 := hpv hp 1 (by simp)
    have ww1 := (y1 v1).1
    have v12 := hpv hp 12 (by simp)
    have ww12 := (y12 v12).1
    have hbw := hbw (nf (by rw [hz]; decide) (fun q => (y14 q).2.2.2.2.2.2.2.2.2.2.2.2.2.1) hi)
    refine C_ ho 23 (zn k (some ⟨Y, 0, none⟩) 2 2 w') fun e u hg => ?_
    ·obtain ⟨he, hb⟩ := hg
     refine ⟨.agg #[.int .i8 k, .slice (some ⟨Y, 0, none⟩) 2 2], he, ?_⟩
     have hbs := hbw.size
     have hzz := HZ.out
     have hbs2 := hb.size
     exact ⟨pd hdf, ps hsz, KX hx, Ga, ma, ca, Gb, mb, cb, Y, K1 y0, K1 y1, K1 y2, K1 y3, K1 y4, K1 y5, (kF y6 (fun q => ⟨pn q.1, z8 q.2.1, z8 q.2.2.1, z8 q.2.2.2.1, z8 q.2.2.2.2.1, (kU q.2.2.2.2.2 (fun q => (Ck.Ly.later q hb)))⟩)), K1 y7, K1 y8, K1 y9, K1 y10, (kF y11 (fun q => ⟨pn q.1, z8 q.2.1, z8 q.2.2.1, z8 q.2.2.2.1, z8 q.2.2.2.2.1, (kU q.2.2.2.2.2 (fun q => (Ck.Ly.later q hb)))⟩)), K1 y12, (fun _ => ⟨pS hsz, (z8 ((y1 v1).2)), (z8 v1), (z8 ((y12 v12).2.1)), (z8 ((y12 v12).2.2.1)), (z8 ((y12 v12).2.2.2.1)), (z8 ((y12 v12).2.2.2.2.1)), (z8 ((y12 v12).2.2.2.2.2.1)), (z8 ((y12 v12).2.2.2.2.2.2.1)), (z8 ((y12 v12).2.2.2.2.2.2.2.1)), (z8 ((y12 v12).2.2.2.2.2.2.2.2.1)), (z8 ((y12 v12).2.2.2.2.2.2.2.2.2.1)), (z8 ((y12 v12).2.2.2.2.2.2.2.2.2.2.1)), (z8 v12)⟩), KN y14, (fun _ => hbw.trans (hb.mono hbw.size))⟩
   ·obtain rfl := SI ho
    have v13 := hpv hp 13 (by simp)
    have ww13 := (y13 v13).1
    have hbw := hbw hi
    have hbox := zB hbw (zC H2.out) H2.out
    obtain ⟨bc0, bc1, bf0, bf1, -⟩ := zH hbox
    refine zP ho rfl (zW rfl (w2 := (w'.setCell ⟨w.heap.size + 1, 0, none⟩ (.int .i8 k)).setCell ⟨w.heap.size + 1, 1, none⟩ (.slice (some ⟨Y, 0, none⟩) 2 2)) ?_ ?_)
    ·exact EV
    ·have hsa : ((w'.setCell ⟨w.heap.size + 1, 0, none⟩ (.int .i8 k)).setCell ⟨w.heap.size + 1, 1, none⟩ (.slice (some ⟨Y, 0, none⟩) 2 2)).heap.size = w'.heap.size := by simp
     have hbs := hbw.size
     have hzz := HZ.out
     exact ⟨hdf, hsz, hx, Ga, ma, ca, Gb, mb, cb, Y, K1 y0, K1 y1, K1 y2, K1 y3, K1 y4, K1 y5, (kF y6 (fun q => ⟨q.1, z8 q.2.1, z8 q.2.2.1, z8 q.2.2.2.1, z8 q.2.2.2.2.1, (kT ((y13 v13).2.2.2.2.2.2.2.2.2.2.2.2.2))⟩)), K1 y7, K1 y8, K1 y9, K1 y10, (kF y11 (fun q => ⟨q.1, z8 q.2.1, z8 q.2.2.1, z8 q.2.2.2.1, z8 q.2.2.2.2.1, (kT ((y13 v13).2.2.2.2.2.2.2.2.2.2.2.2.2))⟩)), K1 y12, K1 y13, (fun _ => ⟨(z8 ((y13 v13).2.1)), (z8 ((y13 v13).2.2.1)), (z8 ((y13 v13).2.2.2.1)), (z8 ((y13 v13).2.2.2.2.1)), (z8 ((y13 v13).2.2.2.2.2.1)), (z8 ((y13 v13).2.2.2.2.2.2.1)), (z8 ((y13 v13).2.2.2.2.2.2.2.1)), (z8 ((y13 v13).2.2.2.2.2.2.2.2.1)), (z8 ((y13 v13).2.2.2.2.2.2.2.2.2.1)), (z8 ((y13 v13).2.2.2.2.2.2.2.2.2.2.1)), (z8 ((y13 v13).2.2.2.2.2.2.2.2.2.2.2.1)), (z8 ((y13 v13).2.2.2.2.2.2.2.2.2.2.2.2.1)), (z8 ((y13 v13).2.2.2.2.2.2.2.2.2.2.2.2.2)), (z8 v13), zL hbox _ _, zG (hfrom.out w' hbw) (by omega) _ _⟩), (fun qu => (zJ qu).elim)⟩
  ·rintro listed u w' t ht hu ⟨-, -, -, Ga, ma, ca, Gb, mb, cb, Y, y0, y1, y2, y3, y4, y5, y6, y7, y8, y9, y10, y11, y12, y13, y14, hbw⟩ hall
   have v12 := hall 12 (by decide)
   have v14 := hall 14 (by decide)
   have HBX := k0_ ((y14 v14).2.2.2.2.2.2.2.2.2.2.2.2.2.2.2)
   have hl := ((y12 v12).2.2.2.2.2.2.2.2.2.2.2)
   have hx := ((y14 v14).2.2.2.2.2.2.2.2.2.2.2.2.2.2.1)
   clear y0 y1 y2 y3 y4 y5 y6 y7 y8 y9 y10 y11 y12 y13 y14 v12 v14 hall hu
   clear hbw
   simp only [over, List.setIfInBounds_toArray, List.set_cons_succ, List.set_cons_zero] at ht
   subst ht
   obtain ⟨k0, k1', -, -, -⟩ := zH hx
   have hz := HZ.out
   go_wp2_with fail
   refine ⟨rfl, .agg #[.int .i8 k, .slice (some ⟨Y, 0, none⟩) 2 2], by simp [results, Tryz.results24, go_sem, k0, k1'], ?_⟩
   exact ⟨some ⟨Y, 0, none⟩, 2, 2, rfl, Ty.Is.zEX (hl.weak (fun b _ hq => by have h1 : w1.heap.size ≤ b := hq; show w.heap.size ≤ b; omega)), HBX.out⟩
end Go.Proofs.YtglgjaomneljbacGreatDoor
