import Derived.Test.YtlfcbmobgbcgnaaGreatDoorDd2
import Derived.Test.YtlfcbmobgbcgnaaGreatDoorM14
import Derived.Test.YtlfcbmobgbcgnaaGreatDoorM25
import Derived.Test.YtlfcbmobgbcgnaaGreatDoorM12
import Derived.OwnWalk
namespace Go.Proofs.YtlfcbmobgbcgnaaGreatDoor
set_option maxHeartbeats 4000000
set_option maxRecDepth 100000
open Go.RowKit
namespace Qr
def MeetL (Q : Nat → Prop) (w : World) (k : Int) (kids : Fo) (k' : Int) (kids' : Fo) (e : Ending) (w' : World) : Prop :=
 ∃ G m c, e = .returned (.tuple #[.agg #[.int .i8 (if Ty.agreeT k kids k' kids' then Ty.mK k k' else 0), .slice G m c], .bool (Ty.agreeT k kids k' kids')]) ∧
  Ck.Ly (Ck.Cut Q w.heap.size w.heap.size) w' (if Ty.agreeT k kids k' kids' then (Ty.mK k k', Ty.mT k kids k' kids') else (0, .nil)) G m c ∧ Below w.heap.size w w'
theorem MeetL.gen {Q : Nat → Prop} {w w' : World} {k : Int} {kids : Fo} {k' : Int} {kids' : Fo} {e : Ending} (h : MeetL Q w k kids k' kids' e w') : ∃ (t : Ck.T2) (G : Option Addr) (m c : Nat), t = (if Ty.agreeT k kids k' kids' then (Ty.mK k k', Ty.mT k kids k' kids') else (0, .nil)) ∧ e = .returned (.tuple #[.agg #[.int .i8 t.1, .slice G m c], .bool (Ty.agreeT k kids k' kids')]) ∧ Ck.Ly (Ck.Cut Q w.heap.size w.heap.size) w' t G m c ∧ Below w.heap.size w w' := by
 obtain ⟨G, m, c, h1, h2, h3⟩ := h
 refine ⟨_, G, m, c, rfl, ?_, h2, h3⟩
 rw [h1]
 cases Ty.agreeT k kids k' kids' <;> rfl
def MtPost (Q : Nat → Prop) (w : World) (ok : Bool) (t : Ck.T2) (e : Ending) (w' : World) : Prop :=
 ∃ (s : Ck.T2) (G : Option Addr) (m c : Nat), e = .returned (.tuple #[.agg #[.int .i8 s.1, .slice G m c], .bool ok]) ∧ Ck.Ly (Ck.Cut Q w.heap.size w.heap.size) w' s G m c ∧ (ok = true → s = t) ∧ Below w.heap.size w w'
end Qr
theorem zDG (Q : Nat → Prop) (kd k : Int) (kids : Fo) (A : Option Addr) (n c : Nat) (w : World) (hL : Ck.Ly Q w (k, kids) A n c) :
  Calls Tryz.prog 105 #[.int .i8 kd, .agg #[.int .i8 k, .slice A n c]] w (Cg.AsPost Q w (Ty.asOk kd k kids) (Ty.asL kd k kids) (Ty.asR kd k kids)) := by
 have hIs := hL.is
 have HLL := k0_ hL
 have hB0 : Below w.heap.size w (((w.alloc (.cells #[.int .i8 k, .slice A n c] 25)).alloc (.cells #[.int .i8 0, .slice none 0 0] 25)).alloc (.cells #[.int .i8 0, .slice none 0 0] 25)) := (((Below.refl _ _).alloc (Nat.le_refl _) _).alloc (by simp) _).alloc (by simp; omega) _
 obtain ⟨r0, r1, r2⟩ := vD w (.cells #[.int .i8 k, .slice A n c] 25) (.cells #[.int .i8 0, .slice none 0 0] 25)
 have h0 := zG r0 (.cells #[.int .i8 0, .slice none 0 0] 25)
 have h1 := zG r1 (.cells #[.int .i8 0, .slice none 0 0] 25)
 have h2 := zD ((w.alloc (.cells #[.int .i8 k, .slice A n c] 25)).alloc (.cells #[.int .i8 0, .slice none 0 0] 25)) (.cells #[.int .i8 0, .slice none 0 0] 25)
 rw [r2] at h2
 generalize hw1 : (((w.alloc (.cells #[.int .i8 k, .slice A n c] 25)).alloc (.cells #[.int .i8 0, .slice none 0 0] 25)).alloc (.cells #[.int .i8 0, .slice none 0 0] 25)) = w1 at *
 have HW1 := k0_ hw1
 have HB0 := k0_ hB0
 have HC := k0_ (qp k kids A n c w1 (hIs.below hB0))
 have HI := k0_ hIs
 have H0 := k0_ h0
 have H1 := k0_ h1
 have H2 := k0_ h2
 obtain ⟨b0, b1, _, _, hb0⟩ := zF h0
 clear r0 r1 r2 h0 h1 h2 hw1 hB0 hIs hL
 by_cases hkd : 3 ≤ kd ∧ kd ≤ 5
 case neg =>
  have hno : Ty.asOk kd k kids = false := by unfold Ty.asOk; simp; omega
  obtain ⟨e1, e2⟩ := Ty.zA3 hno
  rw [hno, e1, e2]
  have f1 : (kd != 3) = true := by simp; omega
  have f2 : (kd != 4) = true := by simp; omega
  have f3 : (kd != 5) = true := by simp; omega
  obtain ⟨d0, d1, df0, df1, hd0⟩ := zF H1.out
  obtain ⟨g0, g1, gf0, gf1, hg0⟩ := zF H2.out
  clear hno e1 e2 hkd HC
  go_enter Tryz.func105, Tryz.ntmps105
  go_wp2_with fail
  rw [HW1.out]
  go_wp2_with fail
  refine bodyPost_ret (v := .tuple #[.agg #[.int .i8 0, .slice none 0 0], .agg #[.int .i8 0, .slice none 0 0], .bool false]) (by simp [results, Tryz.results105, go_sem, *]) rfl ⟨none, 0, 0, none, 0, 0, rfl, Ck.Ly.zero _ _, Ck.Ly.zero _ _, ?_⟩
  exact HB0.out
 have hr2 : kd = 3 ∨ kd = 4 ∨ kd = 5 := by omega
 by_cases hc0 : Ty.chk k kids = 0
 case neg =>
  have hno : Ty.asOk kd k kids = false := by unfold Ty.asOk; simp [hc0]
  obtain ⟨e1, e2⟩ := Ty.zA3 hno
  rw [hno, e1, e2]
  have hcn : (((Ty.chk k kids : Nat) : Int) != 0) = true := by simp; omega
  generalize Ty.chk k kids = C at *
  clear hno e1 e2 hc0 hkd
  rcases hr2 with rfl | rfl | rfl
  all_goals
   go_enter Tryz.func105, Tryz.ntmps105
   go_wp2_with fail
   rw [HW1.out]
   go_wp2_with fail
   refine HC.out.mono ?_
   rintro e w2 ⟨rfl, hb⟩
   exact zGE
 have hok := (Ty.zZ hc0).1
 rw [hc0] at HC
 by_cases hk0 : k = 0
 ·subst hk0
  obtain rfl := Ty.jQ hok (by omega)
  obtain ⟨e1, e2, e3⟩ := Ty.zBX hkd.1 hkd.2
  rw [e1, e2, e3]
  clear e1 e2 e3 hok hkd hc0
  rcases hr2 with rfl | rfl | rfl
  all_goals
   go_enter Tryz.func105, Tryz.ntmps105
   go_wp2_with fail
   rw [HW1.out]
   go_wp2_with fail
   refine HC.out.mono ?_
   rintro e w2 ⟨rfl, hb⟩
   obtain ⟨b0, b1, _, _, hb0⟩ := zF (zA hb (zC H0.out) H0.out)
   obtain ⟨d0, d1, df0, df1, hd0⟩ := zF (zA hb (zC H1.out) H1.out)
   obtain ⟨g0, g1, gf0, gf1, hg0⟩ := zF (zA hb (zC H2.out) H2.out)
   have HB2 := kt_ HB0 hb
   clear hb
   go_wp2_with fail
   refine bodyPost_ret (v := .tuple #[.agg #[.int .i8 0, .slice none 0 0], .agg #[.int .i8 0, .slice none 0 0], .bool true]) (by simp [results, Tryz.results105, go_sem, *]) rfl ⟨none, 0, 0, none, 0, 0, rfl, Ck.Ly.zero _ _, Ck.Ly.zero _ _, ?_⟩
   exact ja HB2.out (Nat.le_add_right _ _) (by omega) _ _ _ _
 have hz : (k == 0) = false := by simpa using hk0
 by_cases hkk : k = kd
 ·subst hkk
  obtain ⟨a1, a2, p1, f1, a3, a4, p2, f2, rfl, o1, o2⟩ := Ty.jA hok hkd.1
  obtain ⟨e1, e2, e3⟩ := Ty.zDv hkd.1 hkd.2 hc0
  rw [e1, e2, e3]
  have hn := HI.out.n_eq
  simp only [Ty.len] at hn
  subst hn
  obtain ⟨bb, oo, B1, c1, B2, c2, rfl, -, x0, x1, x2, x3, i1, i2⟩ := HLL.out.parts
  have hne2 : (k != k) = false := by simp
  have I1 := k0_ ((i1.weak (Q' := Ck.Cut Q w.heap.size (w.heap.size + 3)) (fun b hl hq => .inl ⟨hq, hl⟩)).later HB0.out)
  have I2 := k0_ ((i2.weak (Q' := Ck.Cut Q w.heap.size (w.heap.size + 3)) (fun b hl hq => .inl ⟨hq, hl⟩)).later HB0.out)
  clear HLL
  have X0 := k0_ (qC x0 HB0.out)
  have X1 := k0_ (qC x1 HB0.out)
  have X2 := k0_ (qC x2 HB0.out)
  have X3 := k0_ (qC x3 HB0.out)
  clear e1 e2 e3 hok hkd hc0 o1 o2 i1 i2 x0 x1 x2 x3 hk0
  generalize Ty.len f1 = m1 at *
  generalize Ty.len f2 = m2 at *
  rcases hr2 with rfl | rfl | rfl
  all_goals
   go_enter Tryz.func105, Tryz.ntmps105
   go_wp2_with fail
   rw [HW1.out]
   go_wp2_with fail
   refine HC.out.mono ?_
   rintro e w2 ⟨rfl, hb⟩
   obtain ⟨b0, b1, _, _, hb0⟩ := zF (zA hb (zC H0.out) H0.out)
   obtain ⟨d0, d1, df0, df1, hd0⟩ := zF (zA hb (zC H1.out) H1.out)
   obtain ⟨g0, g1, gf0, gf1, hg0⟩ := zF (zA hb (zC H2.out) H2.out)
   have x0 := qC X0.out hb
   have x1 := qC X1.out hb
   have x2 := qC X2.out hb
   have x3 := qC X3.out hb
   have HB2 := kt_ HB0 hb
   have HBW := k0_ hb
   clear hb
   go_wp2_with fail
   go_region
   all_goals
    go_wp2_with fail
    have hz1 : w1.heap.size = w.heap.size + 3 := by rw [← HW1.out]; simp
    refine bodyPost_ret (v := .tuple #[.agg #[.int .i8 p1, .slice B1 m1 c1], .agg #[.int .i8 p2, .slice B2 m2 c2], .bool true]) (by simp [results, Tryz.results105, go_sem, *]) rfl ⟨B1, m1, c1, B2, m2, c2, rfl, ?_, ?_, ?_⟩
    ·exact (((I1.out.later HBW.out.drew).set2 (X := w.heap.size + 1) (fun b hq => hq.ne (by omega) (by omega)) _ _).set2 (X := w.heap.size + 1 + 1) (fun b hq => hq.ne (by omega) (by omega)) _ _).weak (fun b _ hq => hq.out (by omega))
    ·exact (((I2.out.later HBW.out.drew).set2 (X := w.heap.size + 1) (fun b hq => hq.ne (by omega) (by omega)) _ _).set2 (X := w.heap.size + 1 + 1) (fun b hq => hq.ne (by omega) (by omega)) _ _).weak (fun b _ hq => hq.out (by omega))
    ·exact ja HB2.out.drew (Nat.le_add_right _ _) (by omega) _ _ _ _
 ·have hno : Ty.asOk kd k kids = false := by unfold Ty.asOk; simp [hkk, hk0]
  obtain ⟨e1, e2⟩ := Ty.zA3 hno
  rw [hno, e1, e2]
  have hkk2 : (k != kd) = true := by simpa using hkk
  clear hno e1 e2 hc0 hkd hok hkk hk0
  rcases hr2 with rfl | rfl | rfl
  all_goals
   go_enter Tryz.func105, Tryz.ntmps105
   go_wp2_with fail
   rw [HW1.out]
   go_wp2_with fail
   refine HC.out.mono ?_
   rintro e w2 ⟨rfl, hb⟩
   obtain ⟨b0, b1, _, _, hb0⟩ := zF (zA hb (zC H0.out) H0.out)
   exact zGE
theorem zAa (Q : Nat → Prop) (k : Int) (kids : Fo) (A : Option Addr) (n c : Nat) (k' : Int) (kids' : Fo) (A' : Option Addr) (n' c' : Nat) (w : World) (hL : Ck.Ly Q w (k, kids) A n c) (hL' : Ck.Ly Q w (k', kids') A' n' c') :
  Calls Tryz.prog 106 #[.agg #[.int .i8 k, .slice A n c], .agg #[.int .i8 k', .slice A' n' c']] w (Qr.MeetL Q w k kids k' kids') := by
 have hIs := hL.is
 have hIs' := hL'.is
 have HP := (Ck.Ly.weak (Q' := fun b => Q b ∧ b < w.heap.size) hL (fun b hl hq => ⟨hq, hl⟩)).isP
 have HP' := (Ck.Ly.weak (Q' := fun b => Q b ∧ b < w.heap.size) hL' (fun b hl hq => ⟨hq, hl⟩)).isP
 obtain ⟨hA0, hA1, hA2, hsz⟩ := vE w (.cells #[.int .i8 k, .slice A n c] 25) (.cells #[.int .i8 k', .slice A' n' c'] 25) (.cells #[.int .i8 0, .slice none 0 0] 25)
 have hB1 := jS w (.cells #[.int .i8 k, .slice A n c] 25) (.cells #[.int .i8 k', .slice A' n' c'] 25) (.cells #[.int .i8 0, .slice none 0 0] 25)
 generalize hw1 : ((w.alloc (.cells #[.int .i8 k, .slice A n c] 25)).alloc (.cells #[.int .i8 k', .slice A' n' c'] 25)).alloc (.cells #[.int .i8 0, .slice none 0 0] 25) = w1 at *
 have HW1 := k0_ hw1
 have HB1 := k0_ hB1
 have HX1 := k0_ hA0
 have HY1 := k0_ hA1
 have HZ1 := k0_ hA2
 have CA := k0_ (fun (W : World) (hb : Below w.heap.size w W) => qp k kids A n c W (hIs.below hb))
 have CB := k0_ (fun (W : World) (hb : Below w.heap.size w W) => qp k' kids' A' n' c' W (hIs'.below hb))
 have CG := k0_ (fun (W : World) (hb : Below w.heap.size w W) => yR k kids A n c k' kids' A' n' c' W (hIs.below hb) (hIs'.below hb))
 have HQ := k0_ (zA4 (k := k) (kids := kids) (k' := k') (kids' := kids'))
 have HM := k0_ (fun (W : World) (hb : Below w.heap.size w W) h1 h2 h3 => zBq (Ty.nodes kids + 1) k kids A n c k' kids' A' n' c' (fun b => Q b ∧ b < w.heap.size) W (Nat.lt_succ_self _) (qB HP hb) (qB HP' hb) (fun b h => Nat.lt_of_lt_of_le h.2 hb.size) h1 h2 h3)
 have HSZ := k0_ hsz
 clear hA0 hA1 hA2 hsz hB1 hw1 hIs hIs' hL hL' HP HP'
 by_cases h0 : Ty.chk k kids = 0
 ·by_cases h1 : Ty.chk k' kids' = 0
  ·rw [h0] at CA
   rw [h1] at CB
   cases hR : Ty.agreeT k kids k' kids'
   ·rw [hR] at CG
    have hp : ∀ (e : Ending) (w' : World), (∃ G m c, e = .returned (.tuple #[.agg #[.int .i8 0, .slice G m c], .bool false]) ∧ Ck.Ly (Ck.Cut Q w.heap.size w.heap.size) w' (0, .nil) G m c ∧ Below w.heap.size w w') → Qr.MeetL Q w k kids k' kids' e w' := fun e w' h => by unfold Qr.MeetL; rw [hR]; exact h
    refine Calls.mono ?_ hp
    clear hp hR HQ h0 h1 HM
    go_enter Tryz.func106, Tryz.ntmps106
    go_upto_region 1 with fail
    rw [HW1.out]
    obtain ⟨x0, x1, x2, x3, hxl⟩ := zF HX1.out
    go_wp2_with fail
    refine (CA.out _ HB1.out).mono ?_
    rintro e w2 ⟨rfl, hb⟩
    have HB2 := kt_ HB1 hb
    have HX2 := kp_ hb HX1
    have HY2 := kp_ hb HY1
    have HZ2 := kp_ hb HZ1
    clear hb
    clear x0 x1 x2 x3 hxl
    obtain ⟨y0, y1, y2, y3, hyl⟩ := zF HY2.out
    go_wp2_with fail
    refine (CB.out _ HB2.out).mono ?_
    rintro e w3 ⟨rfl, hb⟩
    have HB3 := kt_ HB2 hb
    have HX3 := kp_ hb HX2
    have HY3 := kp_ hb HY2
    have HZ3 := kp_ hb HZ2
    clear hb
    clear y0 y1 y2 y3 hyl
    obtain ⟨x0, x1, x2, x3, hxl⟩ := zF HX3.out
    obtain ⟨y0, y1, y2, y3, hyl⟩ := zF HY3.out
    go_wp2_with fail
    refine (CG.out _ HB3.out).mono ?_
    rintro e w4 ⟨rfl, hb⟩
    have HB4 := kt_ HB3 hb
    have HX4 := kp_ hb HX3
    have HY4 := kp_ hb HY3
    have HZ4 := kp_ hb HZ3
    clear hb
    clear x0 x1 x2 x3 hxl y0 y1 y2 y3 hyl
    obtain ⟨z0, z1, z2, z3, hzl⟩ := zF HZ4.out
    go_wp2_with fail
    refine bodyPost_ret (v := .tuple #[.agg #[.int .i8 0, .slice none 0 0], .bool false]) (by simp [results, Tryz.results106, go_sem, *]) rfl ⟨none, 0, 0, rfl, Ck.Ly.zero _ _, ?_⟩
    exact (HB4.out.setCell (p := ⟨w.heap.size + 1 + 1, 0, none⟩) (by simp; omega) _).setCell (p := ⟨w.heap.size + 1 + 1, 1, none⟩) (by simp; omega) _
   ·rw [hR] at CG
    obtain ⟨⟨o1, s1⟩, ⟨o2, s2⟩, ha⟩ := HQ.out hR
    have HMM := k0_ (fun (W : World) (hb : Below w.heap.size w W) => HM.out W hb o1 o2 ha)
    have hp : ∀ (e : Ending) (w' : World), (∃ G m c, e = .returned (.tuple #[.agg #[.int .i8 (Ty.mK k k'), .slice G m c], .bool true]) ∧ Ck.Ly (Ck.Cut Q w.heap.size w.heap.size) w' (Ty.mK k k', Ty.mT k kids k' kids') G m c ∧ Below w.heap.size w w') → Qr.MeetL Q w k kids k' kids' e w' := fun e w' h => by unfold Qr.MeetL; rw [hR]; exact h
    refine Calls.mono ?_ hp
    clear HM
    generalize Ty.mK k k' = MK at *
    generalize Ty.mT k kids k' kids' = MT at *
    clear hp hR HQ h0 h1 o1 s1 o2 s2 ha
    go_enter Tryz.func106, Tryz.ntmps106
    go_upto_region 1 with fail
    rw [HW1.out]
    obtain ⟨x0, x1, x2, x3, hxl⟩ := zF HX1.out
    go_wp2_with fail
    refine (CA.out _ HB1.out).mono ?_
    rintro e w2 ⟨rfl, hb⟩
    have HB2 := kt_ HB1 hb
    have HX2 := kp_ hb HX1
    have HY2 := kp_ hb HY1
    have HZ2 := kp_ hb HZ1
    clear hb
    clear x0 x1 x2 x3 hxl
    obtain ⟨y0, y1, y2, y3, hyl⟩ := zF HY2.out
    go_wp2_with fail
    refine (CB.out _ HB2.out).mono ?_
    rintro e w3 ⟨rfl, hb⟩
    have HB3 := kt_ HB2 hb
    have HX3 := kp_ hb HX2
    have HY3 := kp_ hb HY2
    have HZ3 := kp_ hb HZ2
    clear hb
    clear y0 y1 y2 y3 hyl
    obtain ⟨x0, x1, x2, x3, hxl⟩ := zF HX3.out
    obtain ⟨y0, y1, y2, y3, hyl⟩ := zF HY3.out
    go_wp2_with fail
    refine (CG.out _ HB3.out).mono ?_
    rintro e w4 ⟨rfl, hb⟩
    have HB4 := kt_ HB3 hb
    have HX4 := kp_ hb HX3
    have HY4 := kp_ hb HY3
    have HZ4 := kp_ hb HZ3
    clear hb
    clear x0 x1 x2 x3 hxl y0 y1 y2 y3 hyl
    obtain ⟨x0, x1, x2, x3, hxl⟩ := zF HX4.out
    obtain ⟨y0, y1, y2, y3, hyl⟩ := zF HY4.out
    go_wp2_with fail
    refine (HMM.out _ HB4.out).mono ?_
    rintro e w5 ⟨G, m, cg, rfl, hi, hb⟩
    have HB5 := kt_ HB4 hb
    have HX5 := kp_ hb HX4
    have HY5 := kp_ hb HY4
    have HZ5 := kp_ hb HZ4
    clear hb
    have HJ := k0_ hi
    clear x0 x1 x2 x3 hxl y0 y1 y2 y3 hyl
    obtain ⟨z0, z1, z2, z3, hzl⟩ := zF HZ5.out
    clear hi
    go_wp2_with fail
    refine bodyPost_ret (v := .tuple #[.agg #[.int .i8 MK, .slice G m cg], .bool true]) (by simp [results, Tryz.results106, go_sem, *]) rfl ⟨G, m, cg, rfl, ?_, ?_⟩
    ·exact Ck.Ly.ofP (a := (MK, MT)) (j6 (jd HJ.out (fun b h e => by have := HB4.out.size; have := zC HZ4.out; rcases h with ⟨-, h⟩ | h <;> omega) _ _) (fun b h => h.elim (fun q => .inl q) (fun q => .inr (by have := HB4.out.size; omega))))
    ·exact (HB5.out.setCell (p := ⟨w.heap.size + 1 + 1, 0, none⟩) (by simp; omega) _).setCell (p := ⟨w.heap.size + 1 + 1, 1, none⟩) (by simp; omega) _
  ·have hR : Ty.agreeT k kids k' kids' = false := by unfold Ty.agreeT; simp [h1]
   have hp : ∀ (e : Ending) (w' : World), (∃ G m c, e = .returned (.tuple #[.agg #[.int .i8 0, .slice G m c], .bool false]) ∧ Ck.Ly (Ck.Cut Q w.heap.size w.heap.size) w' (0, .nil) G m c ∧ Below w.heap.size w w') → Qr.MeetL Q w k kids k' kids' e w' := fun e w' h => by unfold Qr.MeetL; rw [hR]; exact h
   refine Calls.mono ?_ hp
   rw [h0] at CA
   have hc : (((Ty.chk k' kids' : Nat) : Int) != 0) = true := by simp; omega
   generalize Ty.chk k' kids' = C at *
   clear hp hR HQ h0 h1 HM CG
   go_enter Tryz.func106, Tryz.ntmps106
   go_upto_region 1 with fail
   rw [HW1.out]
   obtain ⟨x0, x1, x2, x3, hxl⟩ := zF HX1.out
   go_wp2_with fail
   refine (CA.out _ HB1.out).mono ?_
   rintro e w2 ⟨rfl, hb⟩
   have HB2 := kt_ HB1 hb
   have HX2 := kp_ hb HX1
   have HY2 := kp_ hb HY1
   have HZ2 := kp_ hb HZ1
   clear hb
   clear x0 x1 x2 x3 hxl
   obtain ⟨y0, y1, y2, y3, hyl⟩ := zF HY2.out
   go_wp2_with fail
   refine (CB.out _ HB2.out).mono ?_
   rintro e w3 ⟨rfl, hb⟩
   have HB3 := kt_ HB2 hb
   have HX3 := kp_ hb HX2
   have HY3 := kp_ hb HY2
   have HZ3 := kp_ hb HZ2
   clear hb
   clear y0 y1 y2 y3 hyl
   obtain ⟨z0, z1, z2, z3, hzl⟩ := zF HZ3.out
   go_wp2_with fail
   refine bodyPost_ret (v := .tuple #[.agg #[.int .i8 0, .slice none 0 0], .bool false]) (by simp [results, Tryz.results106, go_sem, *]) rfl ⟨none, 0, 0, rfl, Ck.Ly.zero _ _, ?_⟩
   exact zEl
 ·have hR : Ty.agreeT k kids k' kids' = false := by unfold Ty.agreeT; simp [h0]
  have hp : ∀ (e : Ending) (w' : World), (∃ G m c, e = .returned (.tuple #[.agg #[.int .i8 0, .slice G m c], .bool false]) ∧ Ck.Ly (Ck.Cut Q w.heap.size w.heap.size) w' (0, .nil) G m c ∧ Below w.heap.size w w') → Qr.MeetL Q w k kids k' kids' e w' := fun e w' h => by unfold Qr.MeetL; rw [hR]; exact h
  refine Calls.mono ?_ hp
  have hc : (((Ty.chk k kids : Nat) : Int) != 0) = true := by simp; omega
  generalize Ty.chk k kids = C at *
  clear hp hR HQ h0 HM CG CB
  go_enter Tryz.func106, Tryz.ntmps106
  go_upto_region 1 with fail
  rw [HW1.out]
  obtain ⟨x0, x1, x2, x3, hxl⟩ := zF HX1.out
  go_wp2_with fail
  refine (CA.out _ HB1.out).mono ?_
  rintro e w2 ⟨rfl, hb⟩
  have HB2 := kt_ HB1 hb
  have HX2 := kp_ hb HX1
  have HY2 := kp_ hb HY1
  have HZ2 := kp_ hb HZ1
  clear hb
  clear x0 x1 x2 x3 hxl
  obtain ⟨z0, z1, z2, z3, hzl⟩ := zF HZ2.out
  go_wp2_with fail
  refine bodyPost_ret (v := .tuple #[.agg #[.int .i8 0, .slice none 0 0], .bool false]) (by simp [results, Tryz.results106, go_sem, *]) rfl ⟨none, 0, 0, rfl, Ck.Ly.zero _ _, ?_⟩
  exact zEk
theorem zBu (m : Int) (hm : (m == 0) = true) (k : Int) (kids : Fo) (A : Option Addr) (n c : Nat) (k' : Int) (kids' : Fo) (A' : Option Addr) (n' c' : Nat) (w : World) (hIs : Ty.Is w k kids A n c) (hIs' : Ty.Is w k' kids' A' n' c') :
  Calls Tryz.prog 36 #[.agg #[.int .i8 k, .slice A n c], .agg #[.int .i8 k', .slice A' n' c'], .int .i64 m] w fun e w' => e = .returned (.bool (Ty.agreeT k kids k' kids')) ∧ Below w.heap.size w w' := by
 have HB2 := k0_ (ze w (.cells #[.int .i8 k, .slice A n c] 25) (.cells #[.int .i8 k', .slice A' n' c'] 25))
 obtain ⟨h0, h1⟩ := zT w (.cells #[.int .i8 k, .slice A n c] 25) (.cells #[.int .i8 k', .slice A' n' c'] 25)
 have CA := k0_ (fun (W : World) (hb : Below w.heap.size w W) => yR k kids A n c k' kids' A' n' c' W (hIs.below hb) (hIs'.below hb))
 generalize Ty.agreeT k kids k' kids' = B at *
 clear hIs hIs'
 go_enter Tryz.func36, Tryz.ntmps36
 go_upto_region 1 with fail
 generalize (w.alloc (.cells #[.int .i8 k, .slice A n c] 25)).alloc (.cells #[.int .i8 k', .slice A' n' c'] 25) = w1 at *
 obtain ⟨x0, x1, -, -, xl⟩ := zF h0
 obtain ⟨y0, y1, -, -, yl⟩ := zF h1
 clear h0 h1
 go_wp2_with fail
 refine (CA.out _ HB2.out).mono ?_
 rintro e w2 ⟨rfl, hb⟩
 have HB3 := kt_ HB2 hb
 clear hb x0 x1 xl y0 y1 yl
 go_wp2_with fail
 go_ret
 exact ⟨rfl, HB3.out⟩
theorem zAZ (Q : Nat → Prop) (kd : Int) (a : Ck.T2) (A : Option Addr) (n c : Nat) (w : World) (hL : Ck.Ly Q w a A n c) :
  Calls Tryz.prog 63 #[.int .i8 kd, .agg #[.int .i8 a.1, .slice A n c], .int .i64 0] w (Cg.AsPost Q w (Ck.asO kd a) (Ck.asl kd a) (Ck.asr kd a)) := by
 have hB3 := jP w (.cells #[.int .i8 a.1, .slice A n c] 25) (.cells #[.int .i8 0, .slice none 0 0] 25) (.cells #[.int .i8 0, .slice none 0 0] 25)
 obtain ⟨h0, h1, h2⟩ := jD w (.cells #[.int .i8 a.1, .slice A n c] 25) (.cells #[.int .i8 0, .slice none 0 0] 25) (.cells #[.int .i8 0, .slice none 0 0] 25)
 have hz : (((w.alloc (.cells #[.int .i8 a.1, .slice A n c] 25)).alloc (.cells #[.int .i8 0, .slice none 0 0] 25)).alloc (.cells #[.int .i8 0, .slice none 0 0] 25)).heap.size = w.heap.size + 3 := by simp
 have CA := k0_ (fun (W : World) (hb : Below w.heap.size w W) => zDG (fun b => Q b ∧ b < w.heap.size) kd a.1 a.2 A n c W ((hL.weak (fun b hl hq => ⟨hq, hl⟩)).later hb))
 have HB3 := k0_ hB3
 have HZ := k0_ hz
 have H1 := k0_ h1
 have H2 := k0_ h2
 clear hL hB3 hz h1 h2
 go_enter Tryz.func63, Tryz.ntmps63
 go_upto_region 1 with fail
 generalize ((w.alloc (.cells #[.int .i8 a.1, .slice A n c] 25)).alloc (.cells #[.int .i8 0, .slice none 0 0] 25)).alloc (.cells #[.int .i8 0, .slice none 0 0] 25) = w1 at *
 obtain ⟨r0, r1, -, -, rl⟩ := zF h0
 clear h0
 go_wp2_with fail
 refine (CA.out _ HB3.out).mono ?_
 rintro e w2 ⟨G1, m1, c1, G2, m2, c2, rfl, hl1, hl2, hb⟩
 have hs := HZ.out
 have HB4 := kt_ HB3 hb
 have H1 := kp_ hb H1
 have H2 := kp_ hb H2
 have HL1 := k0_ (Ck.Ly.weak (a := Ck.asl kd a) (Q' := Ck.Cut Q w.heap.size (w.heap.size + 3)) hl1 (fun b _ hq => hq.elim (fun q => .inl q.1) (fun q => .inr (by omega))))
 have HL2 := k0_ (Ck.Ly.weak (a := Ck.asr kd a) (Q' := Ck.Cut Q w.heap.size (w.heap.size + 3)) hl2 (fun b _ hq => hq.elim (fun q => .inl q.1) (fun q => .inr (by omega))))
 clear hl1 hl2 hb r0 r1 rl hs
 obtain ⟨y0, y1, y2, y3, yl⟩ := zF H1.out
 obtain ⟨z0, z1, z2, z3, zl⟩ := zF H2.out
 have Z4 := k0_ (zM (zN H1.out (.int .i8 (Ty.asL kd a.1 a.2).1) (.slice G1 m1 c1)) (show w.heap.size + 1 + 1 ≠ w.heap.size + 1 by omega) (.int .i8 (Ty.asR kd a.1 a.2).1) (.slice G2 m2 c2))
 have Z5 := k0_ (zN (zM H2.out (show w.heap.size + 1 ≠ w.heap.size + 1 + 1 by omega) (.int .i8 (Ty.asL kd a.1 a.2).1) (.slice G1 m1 c1)) (.int .i8 (Ty.asR kd a.1 a.2).1) (.slice G2 m2 c2))
 have HBF := k0_ (zH (zH HB4.out (show w.heap.size ≤ w.heap.size + 1 by omega) (.int .i8 (Ty.asL kd a.1 a.2).1) (.slice G1 m1 c1)) (show w.heap.size ≤ w.heap.size + 1 + 1 by omega) (.int .i8 (Ty.asR kd a.1 a.2).1) (.slice G2 m2 c2))
 have HJ1 := k0_ ((HL1.out.set2 (X := w.heap.size + 1) (fun b h => h.ne (by omega) (by omega)) (.int .i8 (Ty.asL kd a.1 a.2).1) (.slice G1 m1 c1)).set2 (X := w.heap.size + 1 + 1) (fun b h => h.ne (by omega) (by omega)) (.int .i8 (Ty.asR kd a.1 a.2).1) (.slice G2 m2 c2))
 have HJ2 := k0_ ((HL2.out.set2 (X := w.heap.size + 1) (fun b h => h.ne (by omega) (by omega)) (.int .i8 (Ty.asL kd a.1 a.2).1) (.slice G1 m1 c1)).set2 (X := w.heap.size + 1 + 1) (fun b h => h.ne (by omega) (by omega)) (.int .i8 (Ty.asR kd a.1 a.2).1) (.slice G2 m2 c2))
 go_wp2_with fail
 generalize ((((w2.setCell ⟨w.heap.size + 1, 0, none⟩ (.int .i8 (Ty.asL kd a.1 a.2).1)).setCell ⟨w.heap.size + 1, 1, none⟩ (.slice G1 m1 c1)).setCell ⟨w.heap.size + 1 + 1, 0, none⟩ (.int .i8 (Ty.asR kd a.1 a.2).1)).setCell ⟨w.heap.size + 1 + 1, 1, none⟩ (.slice G2 m2 c2)) = w6 at *
 obtain ⟨k0, k1, -, -, -⟩ := zF Z4.out
 obtain ⟨k2, k3, -, -, -⟩ := zF Z5.out
 refine bodyPost_ret (v := .tuple #[.agg #[.int .i8 (Ty.asL kd a.1 a.2).1, .slice G1 m1 c1], .agg #[.int .i8 (Ty.asR kd a.1 a.2).1, .slice G2 m2 c2], .bool (Ty.asOk kd a.1 a.2)]) (by simp [results, Tryz.results63, go_sem, k0, k1, k2, k3]) rfl ⟨G1, m1, c1, G2, m2, c2, rfl, HJ1.out.weak (fun b _ h => h.out (by omega)), HJ2.out.weak (fun b _ h => h.out (by omega)), HBF.out⟩
theorem zDC (Q : Nat → Prop) (a : Ck.T2) (A : Option Addr) (n c : Nat) (b : Ck.T2) (A' : Option Addr) (n' c' : Nat) (w : World) (hL : Ck.Ly Q w a A n c) (hL' : Ck.Ly Q w b A' n' c') :
  Calls Tryz.prog 64 #[.agg #[.int .i8 a.1, .slice A n c], .agg #[.int .i8 b.1, .slice A' n' c'], .int .i64 0] w (Qr.MtPost Q w (Ck.ag a b) (Ck.mt a b)) := by
 have hB3 := jP w (.cells #[.int .i8 a.1, .slice A n c] 25) (.cells #[.int .i8 b.1, .slice A' n' c'] 25) (.cells #[.int .i8 0, .slice none 0 0] 25)
 obtain ⟨h0, h1, h2⟩ := jD w (.cells #[.int .i8 a.1, .slice A n c] 25) (.cells #[.int .i8 b.1, .slice A' n' c'] 25) (.cells #[.int .i8 0, .slice none 0 0] 25)
 have hz : (((w.alloc (.cells #[.int .i8 a.1, .slice A n c] 25)).alloc (.cells #[.int .i8 b.1, .slice A' n' c'] 25)).alloc (.cells #[.int .i8 0, .slice none 0 0] 25)).heap.size = w.heap.size + 3 := by simp
 have CA := k0_ (fun (W : World) (hb : Below w.heap.size w W) => zAa (fun b => Q b ∧ b < w.heap.size) a.1 a.2 A n c b.1 b.2 A' n' c' W ((hL.weak (fun b hl hq => ⟨hq, hl⟩)).later hb) ((hL'.weak (fun b hl hq => ⟨hq, hl⟩)).later hb))
 have HT := k0_ (fun (hq : Ck.ag a b = true) => (show (if Ty.agreeT a.1 a.2 b.1 b.2 = true then (Ty.mK a.1 b.1, Ty.mT a.1 a.2 b.1 b.2) else (0, .nil)) = Ck.mt a b from if_pos hq))
 have HB3 := k0_ hB3
 have HZ := k0_ hz
 have H0 := k0_ h0
 have H1 := k0_ h1
 have H2 := k0_ h2
 clear hL hL' hB3 hz h0 h1 h2
 go_enter Tryz.func64, Tryz.ntmps64
 go_upto_region 1 with fail
 generalize ((w.alloc (.cells #[.int .i8 a.1, .slice A n c] 25)).alloc (.cells #[.int .i8 b.1, .slice A' n' c'] 25)).alloc (.cells #[.int .i8 0, .slice none 0 0] 25) = w1 at *
 obtain ⟨r0, r1, -, -, rl⟩ := zF H0.out
 obtain ⟨s0, s1, -, -, sl⟩ := zF H1.out
 go_wp2_with fail
 refine (CA.out _ HB3.out).mono ?_
 rintro e w2 hp
 obtain ⟨t, G, m, cg, ht, rfl, hl, hb⟩ := hp.gen
 have HTT := k0_ ht
 have hs := HZ.out
 have HB4 := kt_ HB3 hb
 have H2 := kp_ hb H2
 have HL := k0_ (hl.weak (Q' := Ck.Cut Q w.heap.size (w.heap.size + 3)) (fun b _ hq => hq.elim (fun q => .inl q.1) (fun q => .inr (by omega))))
 clear hl hb ht hp hs r0 r1 rl s0 s1 sl
 obtain ⟨y0, y1, y2, y3, yl⟩ := zF H2.out
 have Z2 := k0_ (zN H2.out (.int .i8 t.1) (.slice G m cg))
 have HBF := k0_ (zH HB4.out (show w.heap.size ≤ w.heap.size + 1 + 1 by omega) (.int .i8 t.1) (.slice G m cg))
 have HJ := k0_ (HL.out.set2 (X := w.heap.size + 1 + 1) (fun b h => h.ne (by omega) (by omega)) (.int .i8 t.1) (.slice G m cg))
 go_wp2_with fail
 generalize (w2.setCell ⟨w.heap.size + 1 + 1, 0, none⟩ (.int .i8 t.1)).setCell ⟨w.heap.size + 1 + 1, 1, none⟩ (.slice G m cg) = w6 at *
 obtain ⟨k0, k1, -, -, -⟩ := zF Z2.out
 refine bodyPost_ret (v := .tuple #[.agg #[.int .i8 t.1, .slice G m cg], .bool (Ck.ag a b)]) (by simp [results, Tryz.results64, go_sem, k0, k1]; rfl) rfl ⟨t, G, m, cg, rfl, HJ.out.weak (fun b _ h => h.out (by omega)), (fun hq => HTT.out.trans (HT.out hq)), HBF.out⟩
end Go.Proofs.YtlfcbmobgbcgnaaGreatDoor
namespace Go.Proofs.YtlfcbmobgbcgnaaGreatDoor
set_option maxHeartbeats 2000000
set_option maxRecDepth 100000
open Go.RowKit
theorem zAp : (Tryz.prog.info? 84).map (fun i => (i.zero, i.size, i.bytes)) = some (some (.agg #[.string ⟨#[]⟩, .int .i8 0, .slice none 0 0]), 3, 48) := by kernel_rfl
theorem Ck.EAt.zGn {ty : TypeId} {Q : Nat → Prop} {w w1 : World} {l : Ck.Env} {xs : List Value} {base : Nat} {v : Value} {n : Nat} (hn : n = l.length) (hn0 : 0 < n) (hE : Ck.EFlat Q w l xs) (hw : Below w.heap.size w w1) (hown : w1.ownsRow base ty 3 v n xs) :
  ∃ G k, v = .slice G n k ∧ Ck.EAt Q w1 l G n k := by
 exact zG9
theorem qa (Q : Nat → Prop) (l : Ck.Env) (A : Option Addr) (n c : Nat) (nm : ByteArray) (a : Ck.T2) (AG : Option Addr) (am ac : Nat) (w : World) (hE : Ck.EAt Q w l A n c) (hL : Ck.Ly Q w a AG am ac) (hbn : n + 1 ≤ 20000) :
  Calls Tryz.prog 33 #[.slice A n c, .string nm, .agg #[.int .i8 a.1, .slice AG am ac]] w fun e w' => ∃ G k, e = .returned (.slice G (n + 1) k) ∧ Ck.EAt Q w' (l ++ [(nm, a)]) G (n + 1) k ∧ Below w.heap.size w w' := by
 have hn := hE.n_eq
 have HN := k0_ hn
 have HE := k0_ hE
 have HL := k0_ hL
 have hnc := hE.n_le
 have hcm := hE.c_le
 have i5 : (n : Int) ≤ 20000 := by omega
 obtain ⟨i0, hi, hz1, hz2, hz3⟩ := info_parts zAp
 have hb1 := zf w (.cells #[.int .i8 a.1, .slice AG am ac] 25)
 have h0 := zD w (.cells #[.int .i8 a.1, .slice AG am ac] 25)
 have hz : (w.alloc (.cells #[.int .i8 a.1, .slice AG am ac] 25)).heap.size = w.heap.size + 1 := by simp
 have HB1 := k0_ hb1
 have H0 := k0_ h0
 have HZ := k0_ hz
 clear hn hE hL hb1 h0 hz
 go_enter Tryz.func33, Tryz.ntmps33
 go_upto_region 1 with fail
 generalize w.alloc (.cells #[.int .i8 a.1, .slice AG am ac] 25) = w1 at *
 go_wp2_with (first | (at_make; refine wpList_make_own _ rfl _ _ 61 rfl (w.heap.size + 1) 84 i0 (.agg #[.string ⟨#[]⟩, .int .i8 0, .slice none 0 0]) 3 Tryz.underlying61 hi hz1 hz2 .i64 .i64 ((n : Int) + 1) (n + 1) rfl rfl (by omega) (by rw [hz3]; omega) (by unfold maxLen; omega) (Nat.le_of_eq HZ.out.symm) ?_; intro w2 hown hg))
 have HG := k0_ hg
 have HO := k0_ hown
 clear hg hown
 have HB2 := k0_ (show Below w1.heap.size w1 w2 from (Below.refl _ _).grown HG.out (Nat.le_refl _) (fun k hk => by cases hk))
 clear HG
 go_loopw [7, 8] (fun v7 v8 wr => ∃ (i : Nat) (ys : List Value), v8 = .int .i64 i ∧ i ≤ n ∧ wr.ownsRow (w.heap.size + 1) 84 3 v7 i ys ∧ Ck.EFlat Q w (l.take i) ys ∧ Below w1.heap.size w1 wr) (fun _ v _ => n - (intOf v).toNat)
 case atStart => exact ⟨0, [], rfl, by omega, HO.out, (by rw [List.take_zero]; exact trivial), HB2.out⟩
 case round =>
  obtain ⟨i, ys, rfl, hi', hown, hfl, hb⟩ := hrel
  by_cases hin : i < n
  ·obtain ⟨x, hx⟩ : ∃ x, l[i]? = some x := ⟨l[i]'(by have := HN.out; omega), List.getElem?_eq_getElem _⟩
   obtain ⟨bb, oo, G, m, k, hA, c0, c1, c2, hLx⟩ := HE.out.at hx
   have hbw := HB1.out.trans (hb.mono HB1.out.size)
   have c0 := zB c0 hbw
   have c1 := zB c1 hbw
   have c2 := zB c2 hbw
   have j1 : (i : Int) < n := by omega
   have j2 : (0 : Int) ≤ i ∧ (i : Int) < n := by omega
   have HX := k0_ hx
   have HLX := k0_ hLx
   have HB := k0_ hb
   have HFL := k0_ hfl
   have zb := hb.size
   clear hx hLx hb hfl hbw
   subst hA
   go_wp2_with (first | (at_builtin; refine wpList_append_own _ rfl _ _ 61 rfl (w.heap.size + 1) 84 i0 (.agg #[.string ⟨#[]⟩, .int .i8 0, .slice none 0 0]) 3 48 Tryz.underlying61 hi hz1 hz2 hz3 rfl (by decide) u7 _ _ rfl (hown.alloc _) ⟨wr.heap.size, 0, none⟩ 1 1 [.string x.1, .int .i8 x.2.1, .slice G m k] rfl rfl ?c1 ?c2 ?c3 ?c4 ?c5 ?_))
   case c1 => exact qE (zD wr _)
   case c2 => intro y hy; simp at hy; rcases hy with rfl | rfl | rfl <;> rfl
   case c3 => unfold maxLen; omega
   case c4 => omega
   case c5 => have := HZ.out; simp; omega
   intro v' w3 hown2 hg2 _
   have hfin : Hid (w3.ownsRow (w.heap.size + 1) 84 3 v' (i + 1) (ys ++ [.string x.1, .int .i8 x.2.1, .slice G m k]) ∧ Ck.EFlat Q w (l.take (i + 1)) (ys ++ [.string x.1, .int .i8 x.2.1, .slice G m k]) ∧ Below w1.heap.size w1 w3) := by
    refine k0_ ⟨hown2, ?_, ((HB.out.alloc zb _).grown hg2 (by simp; omega) (fun k hk => by have := (hown.lt k hk).1; have := HZ.out; omega))⟩
    rw [List.take_add_one, HX.out]
    exact HFL.out.app ⟨⟨rfl, rfl, G, m, k, rfl, HLX.out⟩, trivial⟩
   clear hown2 hg2 hown
   go_wp2_with fail
   go_roundw
   case rel => exact ⟨i + 1, _, by go_num, by omega, hfin.out.1, hfin.out.2.1, hfin.out.2.2⟩
   case measure => simp [intOf]; omega
  ·obtain rfl : i = n := by omega
   have j1 : ¬ ((i : Int) < i) := by omega
   rw [List.take_of_length_le (by have := HN.out; omega)] at hfl
   have HB := k0_ hb
   have HFL := k0_ hfl
   have zb := HB.out.size
   obtain ⟨x0, x1, -, -, xl⟩ := zF (zA hb (zC H0.out) H0.out)
   clear hb hfl
   go_wp2_with (first | (at_builtin; refine wpList_append_own _ rfl _ _ 61 rfl (w.heap.size + 1) 84 i0 (.agg #[.string ⟨#[]⟩, .int .i8 0, .slice none 0 0]) 3 48 Tryz.underlying61 hi hz1 hz2 hz3 rfl (by decide) u7 _ _ rfl (hown.alloc _) ⟨wr.heap.size, 0, none⟩ 1 1 [.string nm, .int .i8 a.1, .slice AG am ac] rfl rfl ?c1 ?c2 ?c3 ?c4 ?c5 ?_))
   case c2 => exact ⟨rfl, rfl, rfl⟩
   case c3 => unfold maxLen; omega
   case c4 => omega
   case c5 => have := HZ.out; simp; omega
   intro v' w3 hown2 hg2 _
   have hfin : Hid (∃ G k, v' = .slice G (i + 1) k ∧ Ck.EAt Q w3 (l ++ [(nm, a)]) G (i + 1) k ∧ Below w.heap.size w w3) := by
    have hb2 := HB1.out.trans (((HB.out.alloc zb (.cells #[.string nm, .int .i8 a.1, .slice AG am ac] 84)).grown hg2 (by simp; omega) (fun k hk => by have := (hown.lt k hk).1; have := HZ.out; omega)).mono HB1.out.size)
    obtain ⟨G, k, h1, h2⟩ := Ck.EAt.zGn (l := l ++ [(nm, a)]) (by have := HN.out; simp; omega) (by omega) (HFL.out.app (xs' := [.string nm, .int .i8 a.1, .slice AG am ac]) ⟨⟨rfl, rfl, AG, am, ac, rfl, HL.out⟩, trivial⟩) hb2 hown2
    exact k0_ ⟨G, k, h1, h2, hb2⟩
   clear hown2 hg2 hown x0 x1 xl
   obtain ⟨G, k, rfl, hf⟩ := hfin.out
   have HF := k0_ hf
   clear hfin hf
   go_wp2_with fail
   go_ret
   exact ⟨G, k, rfl, HF.out.1, HF.out.2⟩
theorem zBt (Q : Nat → Prop) (l : Ck.Env) (A : Option Addr) (n c : Nat) (x : ByteArray) (w : World) (hE : Ck.EAt Q w l A n c) :
  Calls Tryz.prog 31 #[.slice A n c, .string x] w fun e w' => ∃ (a : Ck.T2) (G : Option Addr) (m k : Nat), e = .returned (.tuple #[.agg #[.int .i8 a.1, .slice G m k], .bool (Ck.fnd l x).isSome]) ∧ Ck.Ly (Ck.Cut Q w.heap.size w.heap.size) w' a G m k ∧ (∀ b, Ck.fnd l x = some b → b = a) ∧ Below w.heap.size w w' := by
 have hn := hE.n_eq
 have HN := k0_ hn
 have HE := k0_ hE
 have hnc := hE.n_le
 have hcm := hE.c_le
 have i5 : (n : Int) ≤ 9223372036854775807 := by unfold maxLen at hcm; omega
 have HB1 := k0_ (zf w (.cells #[.int .i8 0, .slice none 0 0] 25))
 have H0 := k0_ (zD w (.cells #[.int .i8 0, .slice none 0 0] 25))
 obtain ⟨R, hR⟩ : ∃ R, R = Ck.fnd l x := ⟨_, rfl⟩
 rw [← hR]
 have HR := k0_ hR
 clear hn hE hR
 go_enter Tryz.func31, Tryz.ntmps31
 go_upto_region 1 with fail
 generalize w.alloc (.cells #[.int .i8 0, .slice none 0 0] 25) = w1 at *
 go_wp2_with fail
 go_loopw [6] (fun v6 wr => ∃ i : Nat, v6 = .int .i64 ((i : Int) - 1) ∧ i ≤ n ∧ (∀ (j : Nat) (y : ByteArray × Ck.T2), i ≤ j → l[j]? = some y → (y.1.toList == x.toList) = false) ∧ Below w1.heap.size w1 wr) (fun v _ => (intOf v + 1).toNat)
 case atStart =>
  exact zEn
 case round =>
  obtain ⟨i, rfl, hin, hno, hb⟩ := hrel
  cases i with
  | zero =>
   have hf : R = none := HR.out.trans (Ck.uf fun j z hz => hno j z (Nat.zero_le _) hz)
   subst hf
   have z0 := zA hb (zC H0.out) H0.out
   obtain ⟨x0, x1, f0, f1, xl⟩ := zF z0
   have z1 := k0_ (zN z0 (.int .i8 0) (.slice none 0 0))
   have HBF := k0_ (zH (HB1.out.trans (hb.mono HB1.out.size)) (Nat.le_refl _) (.int .i8 0) (.slice none 0 0))
   clear hno hb z0
   go_wp2_with fail
   generalize (wr.setCell ⟨w.heap.size, 0, none⟩ (.int .i8 0)).setCell ⟨w.heap.size, 1, none⟩ (.slice none 0 0) = w3 at *
   obtain ⟨k0, k1, -, -, -⟩ := zF z1.out
   refine bodyPost_ret (v := .tuple #[.agg #[.int .i8 0, .slice none 0 0], .bool false]) (by simp [results, Tryz.results31, go_sem, k0, k1]) rfl ⟨(0, .nil), none, 0, 0, rfl, Ck.Ly.zero _ _, (fun b e => by cases e), HBF.out⟩
  | succ j =>
   have hj : j < l.length := by have := HN.out; omega
   obtain ⟨y, hy⟩ : ∃ y, l[j]? = some y := ⟨l[j]'hj, List.getElem?_eq_getElem hj⟩
   obtain ⟨b, o, G, m, k, hA, c0, c1, c2, hL⟩ := HE.out.at hy
   have hbw := HB1.out.trans (hb.mono HB1.out.size)
   have c0 := zB c0 hbw
   have c1 := zB c1 hbw
   have c2 := zB c2 hbw
   have HL := k0_ ((hL.weak (Q' := Ck.Cut Q w.heap.size (w.heap.size + 1)) fun b hb hq => .inl ⟨hq, hb⟩).later hbw)
   have z0 := kp_ hb H0
   have HBW := k0_ hbw
   have HB := k0_ hb
   have HNO := k0_ hno
   have HYY := k0_ hy
   have e1 : ((j + 1 : Nat) : Int) - 1 = (j : Int) := by omega
   rw [e1]
   have j1 : (0 : Int) ≤ j := by omega
   have j2 : (j : Int) < n := by omega
   have j3 : (0 : Int) ≤ j ∧ (j : Int) < n := by omega
   clear hno hb hL hy e1 hj hbw
   subst hA
   cases hq : (y.1.toList == x.toList)
   ·have HQ := k0_ hq
    go_wp2_with fail
    go_roundw
    case rel =>
     refine ⟨j, by go_num, by omega, fun i' y' hi' hy' => ?_, HB.out⟩
     exact zFy
    case measure => simp [intOf]
   ·have hf : R = some y.2 := HR.out.trans (Ck.ug HYY.out hq fun i' z hi' hz' => HNO.out i' z hi' hz')
    subst hf
    obtain ⟨x0, x1, f0, f1, xl⟩ := zF z0.out
    have z1 := k0_ (zN z0.out (.int .i8 y.2.1) (.slice G m k))
    have HBF := k0_ (zH HBW.out (Nat.le_refl _) (.int .i8 y.2.1) (.slice G m k))
    have HLF := k0_ (HL.out.set2 (X := w.heap.size) (fun b hq => hq.ne (by omega) (by omega)) (.int .i8 y.2.1) (.slice G m k))
    go_wp2_with fail
    generalize (wr.setCell ⟨w.heap.size, 0, none⟩ (.int .i8 y.2.1)).setCell ⟨w.heap.size, 1, none⟩ (.slice G m k) = w3 at *
    obtain ⟨k0, k1, -, -, -⟩ := zF z1.out
    refine bodyPost_ret (v := .tuple #[.agg #[.int .i8 y.2.1, .slice G m k], .bool true]) (by simp [results, Tryz.results31, go_sem, k0, k1]) rfl ⟨y.2, G, m, k, rfl, HLF.out.weak (fun b _ h => h.out (by omega)), (fun b e => by injection e with e; exact e.symm), HBF.out⟩
namespace Qr
structure Qv where
 md : Int
 D : Cg.Ops
 agC : ∀ (k : Int) (kids : Fo) (A : Option Addr) (n c : Nat) (k' : Int) (kids' : Fo) (A' : Option Addr) (n' c' : Nat) (w : World), Ty.Is w k kids A n c → Ty.Is w k' kids' A' n' c' →
  Calls Tryz.prog 36 #[.agg #[.int .i8 k, .slice A n c], .agg #[.int .i8 k', .slice A' n' c'], .int .i64 md] w fun e w' => e = .returned (.bool (D.ag (k, kids) (k', kids'))) ∧ Below w.heap.size w w'
 asC : ∀ (Q : Nat → Prop) (kd : Int) (a : Ck.T2) (A : Option Addr) (n c : Nat) (w : World), 3 ≤ kd ∧ kd ≤ 5 → Ck.Ly Q w a A n c → Ty.okT a.1 a.2 = true →
  Calls Tryz.prog 63 #[.int .i8 kd, .agg #[.int .i8 a.1, .slice A n c], .int .i64 md] w (Cg.AsPost Q w (D.asO kd a) (D.asl kd a) (D.asr kd a))
 mtC : ∀ (Q : Nat → Prop) (a : Ck.T2) (A : Option Addr) (n c : Nat) (b : Ck.T2) (A' : Option Addr) (n' c' : Nat) (w : World), Ck.Ly Q w a A n c → Ck.Ly Q w b A' n' c' →
  Calls Tryz.prog 64 #[.agg #[.int .i8 a.1, .slice A n c], .agg #[.int .i8 b.1, .slice A' n' c'], .int .i64 md] w (MtPost Q w (D.ag a b) (D.mt a b))
def gradQ : Qv where
 md := 0
 D := Cg.grad
 agC := fun k kids A n c k' kids' A' n' c' w h1 h2 => zBu 0 rfl k kids A n c k' kids' A' n' c' w h1 h2
 asC := fun Q kd a A n c w _ hL _ => zAZ Q kd a A n c w hL
 mtC := fun Q a A n c b A' n' c' w h1 h2 => zDC Q a A n c b A' n' c' w h1 h2
end Qr
end Go.Proofs.YtlfcbmobgbcgnaaGreatDoor
